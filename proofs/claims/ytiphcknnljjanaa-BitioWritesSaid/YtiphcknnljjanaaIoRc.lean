/- The law on readers: its walk; no condition but that the arguments are slices of numbers. -/
import Derived.Test.YtiphcknnljjanaaIoRb
import Derived.Test.YtiphcknnljjanaaIoCp
namespace Go.Proofs.Ytiphcknnljjanaa
open Go.RowKit
set_option linter.unusedVariables false

def restR (bs : List Int) (pos : Nat) : Int × List Int := if pos % 8 = 0 then (0, bs.drop (pos / 8)) else (10, [])
/-- The call returns bytes of its own and an error code; the world only grows. -/
def RetE (er : Int) (rb : List Int) (w : World) (e : Ending) (w' : World) : Prop :=
  ∃ v', e = .returned (.tuple #[v', .int .i64 er]) ∧ w.grownBy w' none ∧ w'.ownsRow w.heap.size 5 1 v' rb.length (rb.map (Value.int .u8))
set_option maxRecDepth 100000 in
theorem rest_none (w : World) (base r s : Nat) (h : Rdr w base r s (.slice none 0 0) [] 0) :
    Calls Try.prog 46 #[.pointer (some ⟨r, 0, none⟩)] w (RetE 0 [] w) := by
  obtain ⟨i0, hi, hz0, hz1, hz2⟩ := info_parts infoU8
  have c0 : w.cell? ⟨r, 0, none⟩ = some (.pointer (some ⟨s, 0, none⟩)) := h.rb.cell 0
  have c1 : w.cell? ⟨s, 1, none⟩ = some (.int .i64 0) := h.sb.cell 1
  have c2 : w.cell? ⟨s, 0, none⟩ = some (.slice none 0 0) := h.sb.cell 0
  have HI := Lib.hid hi
  clear hi hz0 hz1 hz2
  have wq : IntKind.i64.wrap 0 = 0 := by decide
  go_enter Try.func46, Try.ntmps46
  go_wp2_with (go_at_call 68; refine (rmade_yes _ _ _ h.rb).mono ?_; rintro e w' ⟨rfl, rfl⟩)
  go_still_tail 16, (by kernel_rfl)
  change wpList _ _ _ _ _ w.drew
  refine wpList_append_own_none rfl _ _ 43 rfl w.heap.size 5 i0 1 Try.underlying43 HI.out _ _ _ rfl (World.ownsRow_nil _ _ _ _) rfl ?_
  go_wp2
  go_ret2
  exact ⟨_, rfl, gb_drew _ _, World.ownsRow_nil _ _ _ _⟩
theorem rest_any (w : World) (base r s : Nat) (V : Value) (bs : List Int) (pos : Nat) (h : Rdr w base r s V bs pos) (hnil : bs = [] → V = .slice none 0 0) (hn : bs.length ≤ 60000) (hp : pos ≤ 8 * bs.length) :
    Calls Try.prog 46 #[.pointer (some ⟨r, 0, none⟩)] w (RetE (restR bs pos).1 (restR bs pos).2 w) := by
  unfold restR
  by_cases hm : pos % 8 = 0
  · rw [if_pos hm]
    by_cases hb : bs = []
    · subst hb
      obtain rfl : pos = 0 := by simpa using hp
      have hv := hnil rfl
      subst hv
      simpa using rest_none w base r s h
    · have hne : 0 < bs.length := List.length_pos_iff.2 hb
      refine (rest_even w base r s V bs pos h hn hne (pos / 8) (by omega) (by omega)).mono ?_
      rintro e w' ⟨v', he, g, o, _⟩
      exact ⟨v', he, g, o⟩
  · rw [if_neg hm]
    refine (rest_odd w base r s V bs pos h hm).mono ?_
    rintro e w' ⟨rfl, g, _⟩
    exact ⟨_, rfl, g, World.ownsRow_nil _ _ _ _⟩
theorem rrest_any (w : World) (base : Nat) (a : Option Addr) (c : Nat) (bs : List Int) (pos : Nat) (h : w.ownsRow base 5 1 (.slice a bs.length c) bs.length (bs.map (Value.int .u8))) (hnil : bs = [] → a = none) (hn : bs.length ≤ 60000) (hp : pos ≤ 8 * bs.length) :
    Calls Try.prog 47 #[.agg #[.slice a bs.length c, .int .i64 pos]] w (RetE (restR bs pos).1 (restR bs pos).2 w) := by
  unfold restR
  by_cases hm : pos % 8 = 0
  · rw [if_pos hm]
    by_cases hb : bs = []
    · subst hb
      obtain rfl : pos = 0 := by simpa using hp
      have hv := hnil rfl
      subst hv
      have hc : c = 0 := by
        rcases h.2 with ⟨k, _⟩ | ⟨g, cap, cur, k, _⟩
        · injection k
        · injection k with k; cases k
      subst hc
      refine (rrest_none w).mono ?_
      rintro e w' ⟨v', he, g, o, _⟩
      exact ⟨v', he, g, by simpa using o⟩
    · have hne : 0 < bs.length := List.length_pos_iff.2 hb
      obtain ⟨g, c2, hs⟩ := own_head h hne
      injection hs with hs1 _ hs2
      subst hs1; subst hs2
      refine (rrest_even w base g c bs pos h hn (pos / 8) (by omega) (by omega)).mono ?_
      rintro e w' ⟨v', he, g, o, _⟩
      exact ⟨v', he, g, o⟩
  · rw [if_neg hm]
    refine (rrest_odd w a bs.length c pos hm).mono ?_
    rintro e w' ⟨rfl, g, _⟩
    exact ⟨_, rfl, g, World.ownsRow_nil _ _ _ _⟩
theorem small_yes (a a2 : Option Addr) (n n2 c c2 : Nat) (w : World) (h : n ≤ 200) (h2 : n2 ≤ 100) : Calls Try.prog 40 #[.slice a n c, .slice a2 n2 c2] w fun e w' => e = .returned (.bool true) ∧ w = w' := by
  go_enter Try.func40, Try.ntmps40
  go_wp2
  go_ret
  exact ⟨ret_b (by simp; omega), rfl⟩
theorem small_no (a a2 : Option Addr) (n n2 c c2 : Nat) (w : World) (h : ¬ (n ≤ 200 ∧ n2 ≤ 100)) : Calls Try.prog 40 #[.slice a n c, .slice a2 n2 c2] w fun e w' => e = .returned (.bool false) ∧ w = w' := by
  by_cases h1 : n ≤ 200
  · have h2 : ¬ n2 ≤ 100 := fun k => h ⟨h1, k⟩
    clear h
    go_enter Try.func40, Try.ntmps40
    go_wp2
    go_ret
    exact ⟨ret_b (by first | (simp; done) | (simp; omega)), rfl⟩
  · clear h
    go_enter Try.func40, Try.ntmps40
    go_wp2
    go_ret
    exact ⟨ret_b (by first | (simp; done) | (simp; omega)), rfl⟩
theorem Rdr.low {w : World} {base base2 r s : Nat} {V : Value} {bs : List Int} {pos : Nat} (h : Rdr w base r s V bs pos) (hb : base2 ≤ base) : Rdr w base2 r s V bs pos := ⟨h.rb, h.sb, own_low h.own hb⟩

def RIn (W : World) (r s xb : Nat) (V : Value) (bs : List Int) (ax : Option Addr) (cx pos pos2 : Nat) (w : World) : Prop :=
  Rdr w W.heap.size r s V bs pos2 ∧ IsB w xb 49 #[.slice ax bs.length cx, .int .i64 pos] ∧ w.ownsRow W.heap.size 5 1 (.slice ax bs.length cx) bs.length (bs.map (Value.int .u8)) ∧ Below W.heap.size W w
theorem cell_grown {w w2 : World} {a : Addr} {v : Value} (h : w.cell? a = some v) (k : w.grownBy w2 none) : w2.cell? a = some v := by
  have hl : a.block < w.heap.size := by
    rcases Nat.lt_or_ge a.block w.heap.size with q | q
    · exact q
    · unfold World.cell? at h; rw [Array.getElem?_eq_none q] at h; simp at h
  have e := k.block a.block hl (by simp)
  unfold World.cell? at h ⊢
  rw [e]; exact h
theorem rs_step {W w w2 : World} {r s xb : Nat} {V : Value} {bs : List Int} {ax : Option Addr} {cx pos pos2 : Nat} {ad : Addr} {x y z : Value}
    (h : w.cell? ⟨xb, 0, none⟩ = some x ∧ w.cell? ⟨xb, 1, none⟩ = some y ∧ w.cell? ad = some z ∧ RIn W r s xb V bs ax cx pos pos2 w) (k : w.grownBy w2 none) :
    w2.cell? ⟨xb, 0, none⟩ = some x ∧ w2.cell? ⟨xb, 1, none⟩ = some y ∧ w2.cell? ad = some z ∧ RIn W r s xb V bs ax cx pos pos2 w2 :=
  ⟨cell_grown h.1 k, cell_grown h.2.1 k, cell_grown h.2.2.1 k, h.2.2.2.1.keep0 k, h.2.2.2.2.1.keep0 k, own_keep0 h.2.2.2.2.2.1 k, h.2.2.2.2.2.2.grown k h.2.2.2.2.2.2.size (by intro k hk; cases hk)⟩
theorem rs_own {W w : World} {r s xb : Nat} {V : Value} {bs : List Int} {ax : Option Addr} {cx pos pos2 : Nat} {ad : Addr} {x y z : Value}
    (h : w.cell? ⟨xb, 0, none⟩ = some x ∧ w.cell? ⟨xb, 1, none⟩ = some y ∧ w.cell? ad = some z ∧ RIn W r s xb V bs ax cx pos pos2 w) : w.ownsRow W.heap.size 5 1 (.slice ax bs.length cx) bs.length (bs.map (Value.int .u8)) := h.2.2.2.2.2.1
theorem alloc_two {w w2 : World} {x y : Value} {t : TypeId} (g : (w.drew.alloc (.cells #[x, y] t)).grownBy w2 none) : w2.cell? ⟨w.heap.size, 0, none⟩ = some x ∧ w2.cell? ⟨w.heap.size, 1, none⟩ = some y ∧ w2.frozen? ⟨w.heap.size, 0, none⟩ = false ∧ w2.frozen? ⟨w.heap.size, 1, none⟩ = false := by
  have h : IsB w2 w.heap.size t #[x, y] := (IsB.new w.drew t #[x, y]).keep0 g
  exact ⟨h.cell 0, h.cell 1, h.free 0, h.free 1⟩

theorem rin_set {W w : World} {r s xb : Nat} {V : Value} {bs : List Int} {ax : Option Addr} {cx pos pos2 : Nat} (h : RIn W r s xb V bs ax cx pos pos2 w) (hx : W.heap.size ≤ xb) :
    RIn W r s xb V bs ax cx pos2 pos2 ((w.setCell ⟨xb, 0, none⟩ (.slice ax bs.length cx)).setCell ⟨xb, 1, none⟩ (.int .i64 pos2)) := by
  have g0 := gb_set w xb 0 (.slice ax bs.length cx)
  have n0 := h.2.1.set 0 (.slice ax bs.length cx)
  have g1 := gb_set (w.setCell ⟨xb, 0, none⟩ (.slice ax bs.length cx)) xb 1 (.int .i64 pos2)
  have n1 := n0.set 1 (.int .i64 pos2)
  refine ⟨⟨(h.1.rb.keepS g0 h.2.1 (by decide)).keepS g1 n0 (by decide), (h.1.sb.keepS g0 h.2.1 (by decide)).keepS g1 n0 (by decide), own_keepS (own_keepS h.1.own g0 h.2.1 (by decide)) g1 n0 (by decide)⟩, n1, own_keepS (own_keepS h.2.2.1 g0 h.2.1 (by decide)) g1 n0 (by decide), ?_⟩
  exact (h.2.2.2.setCell (p := ⟨xb, 0, none⟩) hx _).setCell (p := ⟨xb, 1, none⟩) hx _
theorem rin_grown {W w w2 : World} {r s xb : Nat} {V : Value} {bs : List Int} {ax : Option Addr} {cx pos pos2 : Nat} (h : RIn W r s xb V bs ax cx pos pos2 w) (k : w.grownBy w2 none) : RIn W r s xb V bs ax cx pos pos2 w2 :=
  ⟨h.1.keep0 k, h.2.1.keep0 k, own_keep0 h.2.2.1 k, h.2.2.2.grown k h.2.2.2.size (by intro k hk; cases hk)⟩

theorem rrem_any2 (w : World) (a : Option Addr) (n c pos : Nat) (hn : n ≤ 60000) (hp : pos ≤ 8 * n) :
    Calls Try.prog 49 #[.agg #[.slice a n c, .int .i64 pos]] w (RetQ (.int .i64 ((n : Int) * 8 - pos)) w none fun _ => True) := by
  rw [show (n : Int) * 8 - pos = 8 * (n : Int) - pos by omega]
  exact rrem_any w a n c pos hn hp
/-- What the round holds where it compares. -/
def Big (W : World) (r s xb : Nat) (V : Value) (bs : List Int) (ax : Option Addr) (cx pos : Nat) (v7 v8 : Value) (rb : List Int) (w : World) : Prop :=
  RIn W r s xb V bs ax cx pos pos w ∧ w.ownsRow W.heap.size 5 1 v7 rb.length (rb.map (Value.int .u8)) ∧ w.ownsRow W.heap.size 5 1 v8 rb.length (rb.map (Value.int .u8))
theorem Big.step {W w w2 : World} {r s xb : Nat} {V : Value} {bs : List Int} {ax : Option Addr} {cx pos : Nat} {v7 v8 : Value} {rb : List Int} (h : Big W r s xb V bs ax cx pos v7 v8 rb w) (k : w.grownBy w2 none) : Big W r s xb V bs ax cx pos v7 v8 rb w2 :=
  ⟨rin_grown h.1 k, own_keep0 h.2.1 k, own_keep0 h.2.2 k⟩
theorem rz_of {W w : World} {r s xb : Nat} {V : Value} {bs : List Int} {ax : Option Addr} {cx pos : Nat} {a7 a8 : Option Addr} {c7 c8 : Nat} {rb : List Int} (h : Big W r s xb V bs ax cx pos (.slice a7 rb.length c7) (.slice a8 rb.length c8) rb w) :
    w.cell? ⟨xb, 0, none⟩ = some (.slice ax bs.length cx) ∧ w.cell? ⟨xb, 1, none⟩ = some (.int .i64 pos) ∧ (convert 43 9 (.slice a7 rb.length c7)).run Try.prog w = .ok (.string (strOf rb)) w ∧ (convert 43 9 (.slice a8 rb.length c8)).run Try.prog w = .ok (.string (strOf rb)) w ∧ Big W r s xb V bs ax cx pos (.slice a7 rb.length c7) (.slice a8 rb.length c8) rb w :=
  ⟨h.1.2.1.cell 0, h.1.2.1.cell 1, conv_str w _ _ _ rb (own_slr h.2.1), conv_str w _ _ _ rb (own_slr h.2.2), h⟩
theorem rz_step {W w w2 : World} {r s xb : Nat} {V : Value} {bs : List Int} {ax : Option Addr} {cx pos : Nat} {a7 a8 : Option Addr} {c7 c8 : Nat} {rb : List Int} {p1 p2 p3 p4 : Prop} (h : p1 ∧ p2 ∧ p3 ∧ p4 ∧ Big W r s xb V bs ax cx pos (.slice a7 rb.length c7) (.slice a8 rb.length c8) rb w) (k : w.grownBy w2 none) :
    w2.cell? ⟨xb, 0, none⟩ = some (.slice ax bs.length cx) ∧ w2.cell? ⟨xb, 1, none⟩ = some (.int .i64 pos) ∧ (convert 43 9 (.slice a7 rb.length c7)).run Try.prog w2 = .ok (.string (strOf rb)) w2 ∧ (convert 43 9 (.slice a8 rb.length c8)).run Try.prog w2 = .ok (.string (strOf rb)) w2 ∧ Big W r s xb V bs ax cx pos (.slice a7 rb.length c7) (.slice a8 rb.length c8) rb w2 :=
  rz_of (h.2.2.2.2.step k)
theorem rz_rd {W w : World} {r s xb : Nat} {V : Value} {bs : List Int} {ax : Option Addr} {cx pos : Nat} {v7 v8 : Value} {rb : List Int} {p1 p2 p3 p4 : Prop} (h : p1 ∧ p2 ∧ p3 ∧ p4 ∧ Big W r s xb V bs ax cx pos v7 v8 rb w) : Rdr w W.heap.size r s V bs pos := h.2.2.2.2.1.1

theorem reads_off (a : Option Addr) (len cap : Nat) (a2 : Option Addr) (len2 cap2 : Nat) (W : World) (h : ¬ (len ≤ 200 ∧ len2 ≤ 100)) :
    Calls Try.prog 8 #[.slice a len cap, .slice a2 len2 cap2] W fun e w' => e = .returned (.bool true) ∧ Below W.heap.size W w' := by
  have HN := Lib.hid (small_no a a2 len len2 cap cap2 W h)
  clear h
  go_enter Try.func8, Try.ntmps8
  go_wp2_with (first | (go_at_call 40; refine HN.out.mono ?_; rintro e w' ⟨rfl, rfl⟩) | (go_at_call 41; refine (works_any _).mono ?_; rintro e w' ⟨rfl, g⟩))
  go_ret
  exact ⟨rfl, by assumption⟩

set_option maxRecDepth 100000 in
set_option maxHeartbeats 3000000 in
theorem reads_on (a : Option Addr) (len cap : Nat) (bs : List Int) (a2 : Option Addr) (m cap2 : Nat) (ns : List Int) (W : World) (hs1 : SlR W a len cap (bs.map (Value.int .u8))) (hs2 : SlR W a2 m cap2 (ns.map (Value.int .i64)))
    (hb : ∀ x ∈ bs, 0 ≤ x ∧ x ≤ 255) (h1 : len ≤ 200) (h2 : m ≤ 100) :
    Calls Try.prog 8 #[.slice a len cap, .slice a2 m cap2] W fun e w' => e = .returned (.bool true) ∧ Below W.heap.size W w' := by
  have E1 : bs.length = len := by simpa using hs1.1
  have E2 := Lib.hid (show ns.length = m by simpa using hs2.1)
  subst E1
  have S1 := Lib.hid hs1
  have S2 := Lib.hid hs2
  clear hs1 hs2
  have HN := Lib.hid (small_yes a a2 bs.length m cap cap2 W h1 h2)
  go_enter Try.func8, Try.ntmps8
  go_wp2_with fail
  refine HN.out.mono ?_
  rintro e w0 ⟨rfl, rfl⟩
  have HR := Lib.hid (newReader_any W _ _ _ bs S1.out (by omega))
  clear HN
  go_wp2_with fail
  refine HR.out.mono ?_
  rintro e w1 ⟨r, s, V, rfl, g1, rd1, nl1, lr, ls⟩
  have B1 := Lib.hid (show Below W.heap.size W w1 from (Below.refl _ _).grown g1 (Nat.le_refl _) (by intro k hk; cases hk))
  have RD1 := Lib.hid rd1
  have NL := Lib.hid nl1
  have LS := Lib.hid ls
  have HR2 := Lib.hid (rnew_any w1 _ _ _ bs (S1.out.keep0 g1) (by omega))
  clear g1 rd1 nl1 lr ls HR
  go_wp2_with fail
  refine HR2.out.mono ?_
  rintro e w2 ⟨ax, cx, rfl, g2, o2, nl2⟩
  have B2 := Lib.hid (B1.out.grown g2 B1.out.size (by intro k hk; cases hk))
  have RD2 := Lib.hid (RD1.out.keep0 g2)
  have O2 := Lib.hid (own_low o2 B1.out.size)
  have NL2 := Lib.hid nl2
  have XB := Lib.hid (B2.out.size)
  have N2 := Lib.hid (IsB.new w2 49 #[.slice ax bs.length cx, .int .i64 0])
  have B3 := Lib.hid (B2.out.alloc B2.out.size (.cells #[.slice ax bs.length cx, .int .i64 0] 49))
  have O3 := Lib.hid (O2.out.alloc (.cells #[.slice ax bs.length cx, .int .i64 0] 49))
  have RD3 := Lib.hid ((RD2.out.keep0 (gb_alloc w2 (.cells #[.slice ax bs.length cx, .int .i64 0] 49) none)).low (base2 := W.heap.size) (Nat.le_refl _))
  clear g2 o2 nl2 HR2 B1 RD1 B2 RD2 O2
  go_wp2_with fail
  generalize w2.heap.size = xb at *
  generalize w2.alloc (.cells #[.slice ax bs.length cx, .int .i64 0] 49) = wz at *
  go_loopw [7] (fun i wr => ∃ k pos : Nat, k ≤ m ∧ i = .int .i64 k ∧ pos ≤ 8 * bs.length ∧ Rdr wr W.heap.size r s V bs pos ∧ IsB wr xb 49 #[.slice ax bs.length cx, .int .i64 pos] ∧ wr.ownsRow W.heap.size 5 1 (.slice ax bs.length cx) bs.length (bs.map (Value.int .u8)) ∧ Below W.heap.size W wr) (fun i _ => m - (intOf i).toNat)
  case atStart => exact ⟨0, 0, Nat.zero_le _, rfl, Nat.zero_le _, RD3.out, N2.out, O3.out, B3.out⟩
  case round =>
    obtain ⟨k, pos, hk, rfl, hpos, q1, q2, q3, q4⟩ := hrel
    clear RD3 N2 O3 B3
    have RD := Lib.hid q1
    have N := Lib.hid q2
    have O := Lib.hid q3
    have B := Lib.hid q4
    have HPOS := Lib.hid hpos
    clear q1 q2 q3 q4
    by_cases hlt : k < m
    · cases a2 with
      | none => exact absurd (S2.out.2.1 rfl).1 (by omega)
      | some ad2 =>
        have hkk : (k : Int) < m := by omega
        have hc2 := (S2.out.below B.out).cellAt k (by rw [E2.out]; exact hlt)
        generalize hn : ns.getD k 0 = n at *
        have HN := Lib.hid hn
        clear hn
        obtain ⟨er, v, pos2, hq⟩ : ∃ er v pos2, rdStep bs pos n = (er, v, pos2) := ⟨_, _, _, rfl⟩
        have HQ := Lib.hid hq
        have HP2 := Lib.hid (show pos2 ≤ 8 * bs.length by have k := rdStep_pos bs pos n hpos; rw [hq] at k; exact k)
        have HM := Lib.hid (reads_any wr _ r s V bs pos n RD.out hb (by omega) hpos er v pos2 hq)
        clear hq
        go_wp2_with fail
        refine HM.out.mono ?_
        rintro e w3 ⟨rfl, g3, rd3⟩
        have RD3 := Lib.hid rd3
        have N3 := Lib.hid (N.out.keepS g3 RD.out.sb (by decide))
        have O3 := Lib.hid (own_keepS O.out g3 RD.out.sb (by decide))
        have B3 := Lib.hid (B.out.grown g3 B.out.size (by intro k hk; injection hk with hk; rw [← hk]; exact LS.out))
        have hc3 : w3.cell? (ad2.add k) = some (.int .i64 n) := by
          have z := (S2.out.below B3.out).cellAt k (by rw [E2.out]; exact hlt)
          rw [HN.out] at z
          exact z
        have HB := Lib.hid (show w3.cell? ⟨xb, 0, none⟩ = some (.slice ax bs.length cx) ∧ w3.cell? ⟨xb, 1, none⟩ = some (.int .i64 pos) ∧ w3.cell? (ad2.add k) = some (.int .i64 n) ∧ RIn W r s xb V bs ax cx pos pos2 w3 from ⟨N3.out.cell 0, N3.out.cell 1, hc3, RD3.out, N3.out, O3.out, B3.out⟩)
        clear g3 rd3 HM hc2 RD N O B hc3 N3 O3 B3 RD3
        go_wp2_with fail
        have hb0 := HB.out
        go_region_held3 (fun w' => w'.cell? ⟨xb, 0, none⟩ = some (.slice ax bs.length cx) ∧ w'.cell? ⟨xb, 1, none⟩ = some (.int .i64 pos) ∧ w'.cell? (ad2.add k) = some (.int .i64 n) ∧ RIn W r s xb V bs ax cx pos pos2 w') (first | exact rs_step (by assumption) (by assumption) | exact rs_step (by assumption) (gb_alloc _ _ _) | exact rs_step hb0 (gb_drew _ _) | exact rs_step hb0 (gb_trans (gb_drew _ _) (gb_trans (by assumption) (gb_alloc _ _ _))) | exact rs_step hb0 (gb_trans (gb_drew _ _) (gb_set2 (gb_trans (gb_alloc _ _ _) (by assumption)) (Nat.le_refl _))) | exact hb0 | assumption)
          (first | (go_at_call 45; refine (rread_any _ W.heap.size ax cx bs pos n (rs_own (by assumption)) hb (by omega) HPOS.out er v pos2 HQ.out).mono ?_; rintro e w' ⟨rfl, g⟩; (first | (have yb := alloc_two g; obtain ⟨y0, y1, z0, z1⟩ := yb) | skip)))
        all_goals
          rename_i hs
          obtain ⟨c0, c1, _, rin⟩ := hs
          have f0 := rin.2.1.free 0
          have f1 := rin.2.1.free 1
          have R5 := Lib.hid (rin_set rin XB.out)
          clear rin hb0 HB
          go_wp2_with fail
          obtain ⟨ge, rb, hge⟩ : ∃ ge rb, restR bs pos2 = (ge, rb) := ⟨_, _, rfl⟩
          have HGE := Lib.hid hge
          have hra := rest_any _ _ r s V bs pos2 R5.out.1 NL.out (by omega) HP2.out
          rw [hge] at hra
          have HRA := Lib.hid hra
          clear hra hge
          refine HRA.out.mono ?_
          rintro e w7 ⟨v7, rfl, g7, o7⟩
          have R7 := Lib.hid (rin_grown R5.out g7)
          have O7 := Lib.hid (own_low o7 R5.out.2.2.2.size)
          have c0 : w7.cell? ⟨xb, 0, none⟩ = some (.slice ax bs.length cx) := R7.out.2.1.cell 0
          have c1 : w7.cell? ⟨xb, 1, none⟩ = some (.int .i64 pos2) := R7.out.2.1.cell 1
          have hra := rrest_any w7 W.heap.size ax cx bs pos2 R7.out.2.2.1 NL2.out (by omega) HP2.out
          rw [HGE.out] at hra
          have HRB := Lib.hid hra
          clear hra g7 o7 R5 f0 f1 HRA
          go_wp2_with fail
          refine HRB.out.mono ?_
          rintro e w8 ⟨v8, rfl, g8, o8⟩
          obtain ⟨a7, c7, rfl⟩ := own_shape O7.out
          obtain ⟨a8, c8, rfl⟩ := own_shape o8
          have BG := Lib.hid (show Big W r s xb V bs ax cx pos2 (.slice a7 rb.length c7) (.slice a8 rb.length c8) rb w8 from ⟨rin_grown R7.out g8, own_keep0 O7.out g8, own_low o8 R7.out.2.2.2.size⟩)
          clear g8 o8 R7 O7 c0 c1 HRB
          go_wp2_with fail
          have hb0 := rz_of BG.out
          go_region_held3 (fun w' => w'.cell? ⟨xb, 0, none⟩ = some (.slice ax bs.length cx) ∧ w'.cell? ⟨xb, 1, none⟩ = some (.int .i64 pos2) ∧ (convert 43 9 (.slice a7 rb.length c7)).run Try.prog w' = .ok (.string (strOf rb)) w' ∧ (convert 43 9 (.slice a8 rb.length c8)).run Try.prog w' = .ok (.string (strOf rb)) w' ∧ Big W r s xb V bs ax cx pos2 (.slice a7 rb.length c7) (.slice a8 rb.length c8) rb w') (first | exact rz_step (by assumption) (by assumption) | exact rz_step hb0 (gb_drew _ _) | exact hb0 | assumption)
            (first | (go_at_call 48; refine (Remaining_any _ W.heap.size r s V bs pos2 (rz_rd (by assumption)) (by omega) HP2.out).mono ?_; rintro e w' ⟨rfl, g, _⟩) | (go_at_call 49; refine (rrem_any2 _ _ _ _ _ (by omega) HP2.out).mono ?_; rintro e w' ⟨rfl, g, _⟩))
          all_goals
            rename_i hs
            have FB := Lib.hid hs.2.2.2.2
            clear hs hb0 BG
            go_wp2
            go_roundw
            case rel => exact ⟨k + 1, pos2, by omega, by go_num, HP2.out, FB.out.1.1, FB.out.1.2.1, FB.out.1.2.2.1, FB.out.1.2.2.2⟩
            case measure => simp [intOf]; omega
    · have hkk : ¬ (k : Int) < m := by omega
      go_wp2_with fail
      refine (works_any _).mono ?_
      rintro e w10 ⟨rfl, b10⟩
      have BZ := Lib.hid (below_step B.out B.out.size b10)
      clear b10
      go_wp2
      go_ret
      exact ⟨rfl, BZ.out⟩
theorem reads_walk (a : Option Addr) (len cap : Nat) (z : List Int) (a2 : Option Addr) (len2 cap2 : Nat) (z2 : List Int) (W : World) (h : IsRow .u8 W a len cap z) (h2 : IsRow .i64 W a2 len2 cap2 z2) :
    Calls Try.prog 8 #[.slice a len cap, .slice a2 len2 cap2] W fun e w' => e = .returned (.bool true) ∧ Below W.heap.size W w' := by
  by_cases hs : len ≤ 200 ∧ len2 ≤ 100
  · exact reads_on a len cap (z.take len) a2 len2 cap2 (z2.take len2) W (row_slr h) (row_slr h2) (fun x hx => u8_bd (row_wf h x hx)) hs.1 hs.2
  · exact reads_off a len cap a2 len2 cap2 W hs
end Go.Proofs.Ytiphcknnljjanaa
