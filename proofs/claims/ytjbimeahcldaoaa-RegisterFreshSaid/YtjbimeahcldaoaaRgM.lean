/- Register: Read and Write of the program; Check of both sides; no condition but sizes. -/
import Derived.Test.YtjbimeahcldaoaaRgL
namespace Go.Proofs.Ytjbimeahcldaoaa
open Go.RowKit
set_option linter.unusedVariables false
set_option maxRecDepth 100000 in
set_option maxHeartbeats 4000000 in
theorem pread_any (w : World) (X : PX) (L : List Rg) (a : Option Addr) (n c : Nat) (R : List (List Int)) (r i : Int) (h : SG w X.ra X.rn X.rc L) (g : SR w a n c R) (hn : X.rn ≤ 100000) (hm : n ≤ 100000) (hr : -9223372036854775808 ≤ r ∧ r ≤ 9223372036854775807) (i0 : 0 ≤ i) (i1 : i < 4294967296) (hrow : ∀ j, (R.getD j []).length ≤ 1000000) :
    Calls Try.prog 18 #[.agg #[.string X.nm, .slice X.ha X.hn X.hc, .slice X.ma X.mn X.mc, .slice X.ra X.rn X.rc, .slice X.aa X.an X.ac, .slice X.ta X.tn X.tc, .slice X.sa X.sn X.sc, .slice X.ca X.cn X.cc, .slice X.da X.dn X.dc], .slice a n c, .int .i64 r, .int .u32 i] w (RetV (.int .u32 (readL L R r i)) w) := by
  have AP := Lib.hid (fun (w' : World) (k : w.grownBy w' none) => apload_any w' X L a n c R r i (h.keep0 k) (g.keep0 k) hn hm hr i0 i1 hrow _ rfl)
  unfold RetV at AP
  clear h g hrow
  obtain ⟨A, hA⟩ : ∃ A, A = w.heap.size := ⟨_, rfl⟩
  obtain ⟨w1, hw1⟩ : ∃ w1, w1 = w.alloc (.cells #[.string X.nm, .slice X.ha X.hn X.hc, .slice X.ma X.mn X.mc, .slice X.ra X.rn X.rc, .slice X.aa X.an X.ac, .slice X.ta X.tn X.tc, .slice X.sa X.sn X.sc, .slice X.ca X.cn X.cc, .slice X.da X.dn X.dc] 37) := ⟨_, rfl⟩
  have BA := Lib.hid (show IsB w1 A 37 #[.string X.nm, .slice X.ha X.hn X.hc, .slice X.ma X.mn X.mc, .slice X.ra X.rn X.rc, .slice X.aa X.an X.ac, .slice X.ta X.tn X.tc, .slice X.sa X.sn X.sc, .slice X.ca X.cn X.cc, .slice X.da X.dn X.dc] from by rw [hw1, hA]; exact IsB.new _ _ _)
  have GZ := Lib.hid (show w.grownBy w1 none from by rw [hw1]; exact gb_al (gb_refl _ _))
  have LA := Lib.hid (show A < w1.heap.size from by rw [hw1, hA]; simp)
  go_enter Try.func18, Try.ntmps18
  go_upto_region 1 with fail
  rw [← hw1, ← hA]

  clear hw1 hA
  have s0 : w1.cell? ⟨A, 0, none⟩ = some (.string X.nm) := (BA.out).cell 0
  have s1 : w1.cell? ⟨A, 1, none⟩ = some (.slice X.ha X.hn X.hc) := (BA.out).cell 1
  have s2 : w1.cell? ⟨A, 2, none⟩ = some (.slice X.ma X.mn X.mc) := (BA.out).cell 2
  have s3 : w1.cell? ⟨A, 3, none⟩ = some (.slice X.ra X.rn X.rc) := (BA.out).cell 3
  have s4 : w1.cell? ⟨A, 4, none⟩ = some (.slice X.aa X.an X.ac) := (BA.out).cell 4
  have s5 : w1.cell? ⟨A, 5, none⟩ = some (.slice X.ta X.tn X.tc) := (BA.out).cell 5
  have s6 : w1.cell? ⟨A, 6, none⟩ = some (.slice X.sa X.sn X.sc) := (BA.out).cell 6
  have s7 : w1.cell? ⟨A, 7, none⟩ = some (.slice X.ca X.cn X.cc) := (BA.out).cell 7
  have s8 : w1.cell? ⟨A, 8, none⟩ = some (.slice X.da X.dn X.dc) := (BA.out).cell 8
  go_wp2_with fail
  refine (AP.out w1 GZ.out).mono ?_
  rintro e w3 ⟨rfl, g3⟩
  have G3 := Lib.hid (gb_trans GZ.out g3)
  clear g3 s0 s1 s2 s3 s4 s5 s6 s7 s8
  go_wp2
  go_ret
  exact ⟨rfl, G3.out⟩
theorem keep_rows {L : List Rg} {R : List (List Int)} {r i v : Int} : (writeL L R r i v).length = R.length := by
  unfold writeL
  split
  · rw [List.length_set]
  · rfl
set_option maxRecDepth 100000 in
set_option maxHeartbeats 4000000 in
theorem pwrite_any (w : World) (X : PX) (L : List Rg) (a : Option Addr) (n c : Nat) (R : List (List Int)) (r i v : Int) (h : SG w X.ra X.rn X.rc L) (g : SR w a n c R) (hn : X.rn ≤ 100000) (hm : n ≤ 100000) (hr : -9223372036854775808 ≤ r ∧ r ≤ 9223372036854775807) (i0 : 0 ≤ i) (i1 : i < 4294967296) (v0 : 0 ≤ v) (v1 : v < 4294967296) (hrow : ∀ j, (R.getD j []).length ≤ 1000000) :
    Calls Try.prog 20 #[.agg #[.string X.nm, .slice X.ha X.hn X.hc, .slice X.ma X.mn X.mc, .slice X.ra X.rn X.rc, .slice X.aa X.an X.ac, .slice X.ta X.tn X.tc, .slice X.sa X.sn X.sc, .slice X.ca X.cn X.cc, .slice X.da X.dn X.dc], .slice a n c, .int .i64 r, .int .u32 i, .int .u32 v] w (RetR (writeL L R r i v) w) := by
  have DU := Lib.hid (fun (w' : World) (k : w.grownBy w' none) => dup_any w' a n c R (g.keep0 k) (by omega) hrow)
  unfold RetR at DU
  have AP := Lib.hid (fun (w' : World) (base : Nat) (V : Value) (Vs : List Value) (k : w.grownBy w' none) (o : OR w' base V R Vs) (hb : w.heap.size ≤ base) => apstore_any w w' X L base V Vs R r i v (h.keep0 k) o hb k hn (by rw [g.len]; exact hm) hr i0 i1 v0 v1 hrow)
  clear h g hrow
  obtain ⟨A, hA⟩ : ∃ A, A = w.heap.size := ⟨_, rfl⟩
  obtain ⟨w1, hw1⟩ : ∃ w1, w1 = w.alloc (.cells #[.string X.nm, .slice X.ha X.hn X.hc, .slice X.ma X.mn X.mc, .slice X.ra X.rn X.rc, .slice X.aa X.an X.ac, .slice X.ta X.tn X.tc, .slice X.sa X.sn X.sc, .slice X.ca X.cn X.cc, .slice X.da X.dn X.dc] 37) := ⟨_, rfl⟩
  have BA := Lib.hid (show IsB w1 A 37 #[.string X.nm, .slice X.ha X.hn X.hc, .slice X.ma X.mn X.mc, .slice X.ra X.rn X.rc, .slice X.aa X.an X.ac, .slice X.ta X.tn X.tc, .slice X.sa X.sn X.sc, .slice X.ca X.cn X.cc, .slice X.da X.dn X.dc] from by rw [hw1, hA]; exact IsB.new _ _ _)
  have GZ := Lib.hid (show w.grownBy w1 none from by rw [hw1]; exact gb_al (gb_refl _ _))
  have LA := Lib.hid (show A < w1.heap.size from by rw [hw1, hA]; simp)
  go_enter Try.func20, Try.ntmps20
  go_upto_region 1 with fail
  rw [← hw1, ← hA]

  have LW := Lib.hid (show w.heap.size ≤ w1.heap.size from GZ.out.size)
  clear hw1 hA
  go_wp2_with fail
  refine (DU.out w1 GZ.out).mono ?_
  rintro e w3 ⟨V, Vs, rfl, o3, g3⟩
  have G3 := Lib.hid (gb_trans GZ.out g3)
  have O3 := Lib.hid o3
  have s0 : w3.cell? ⟨A, 0, none⟩ = some (.string X.nm) := (BA.out.keep0 g3).cell 0
  have s1 : w3.cell? ⟨A, 1, none⟩ = some (.slice X.ha X.hn X.hc) := (BA.out.keep0 g3).cell 1
  have s2 : w3.cell? ⟨A, 2, none⟩ = some (.slice X.ma X.mn X.mc) := (BA.out.keep0 g3).cell 2
  have s3 : w3.cell? ⟨A, 3, none⟩ = some (.slice X.ra X.rn X.rc) := (BA.out.keep0 g3).cell 3
  have s4 : w3.cell? ⟨A, 4, none⟩ = some (.slice X.aa X.an X.ac) := (BA.out.keep0 g3).cell 4
  have s5 : w3.cell? ⟨A, 5, none⟩ = some (.slice X.ta X.tn X.tc) := (BA.out.keep0 g3).cell 5
  have s6 : w3.cell? ⟨A, 6, none⟩ = some (.slice X.sa X.sn X.sc) := (BA.out.keep0 g3).cell 6
  have s7 : w3.cell? ⟨A, 7, none⟩ = some (.slice X.ca X.cn X.cc) := (BA.out.keep0 g3).cell 7
  have s8 : w3.cell? ⟨A, 8, none⟩ = some (.slice X.da X.dn X.dc) := (BA.out.keep0 g3).cell 8
  clear g3 o3
  go_wp2_with fail
  refine (AP.out w3 _ V Vs G3.out O3.out LW.out).mono ?_
  rintro e w4 ⟨⟨y, rfl⟩, o4, g4⟩
  have O4 := Lib.hid o4
  have G4 := Lib.hid g4
  clear o4 g4 s0 s1 s2 s3 s4 s5 s6 s7 s8
  go_wp2
  go_ret
  exact ⟨V, Vs, rfl, O4.out.low LW.out, G4.out⟩
set_option maxRecDepth 100000 in
set_option maxHeartbeats 4000000 in
theorem check_b (w : World) (nm : ByteArray) (wd sz : Int) (hl : nm.size ≤ 1000000) (e : Int) (he : chkG (nm, wd, sz) = e) : Calls Try.prog 9 #[.agg #[.string nm, .int .i64 wd, .int .i64 sz]] w (RetV (.int .i64 e) w) := by
  have ID := Lib.hid (fun w => Lx.isIdent_any w (Lx.bytesI nm) (Lx.bytesI_range nm) (by rw [Lx.bytesI_len]; exact hl))
  rw [Lx.bytesI_str] at ID
  unfold Lx.RetS at ID
  have IW := Lib.hid (fun W => isw_any W wd)
  unfold RetV at IW
  have IS := Lib.hid (fun W => iss_any W sz)
  unfold RetS at IS
  have HE := Lib.hid he
  unfold chkG at HE
  clear he hl
  obtain ⟨A, hA⟩ : ∃ A, A = w.heap.size := ⟨_, rfl⟩
  obtain ⟨w1, hw1⟩ : ∃ w1, w1 = w.alloc (.cells #[.string nm, .int .i64 wd, .int .i64 sz] 23) := ⟨_, rfl⟩
  have BA := Lib.hid (show IsB w1 A 23 #[.string nm, .int .i64 wd, .int .i64 sz] from by rw [hw1, hA]; exact IsB.new _ _ _)
  have GZ := Lib.hid (show w.grownBy w1 none from by rw [hw1]; exact gb_al (gb_refl _ _))
  go_enter Try.func9, Try.ntmps9
  go_upto_region 1 with fail
  rw [← hw1, ← hA]
  clear hw1 hA
  have s0 : w1.cell? ⟨A, 0, none⟩ = some (.string nm) := BA.out.cell 0
  have s1 : w1.cell? ⟨A, 1, none⟩ = some (.int .i64 wd) := BA.out.cell 1
  have s2 : w1.cell? ⟨A, 2, none⟩ = some (.int .i64 sz) := BA.out.cell 2
  cases h1 : Lx.isId (Lx.bytesI nm)
  · rw [h1] at ID
    obtain rfl : e = 6 := by rw [← HE.out]; exact if_pos h1
    clear h1 HE
    go_wp2_with fail
    refine (ID.out _).mono ?_
    rintro e w3 ⟨rfl, rfl⟩
    go_wp2
    go_ret
    exact ⟨rfl, GZ.out⟩
  rw [h1] at ID
  rw [if_neg (by rw [h1]; decide)] at HE
  clear h1
  cases h2 : okW wd
  · rw [h2] at IW
    obtain rfl : e = 10 := by rw [← HE.out]; exact if_pos h2
    clear h2 HE
    go_wp2_with fail
    refine (ID.out _).mono ?_
    rintro e w3 ⟨rfl, rfl⟩
    go_wp2_with fail
    refine (IW.out _).mono ?_
    rintro e w4 ⟨rfl, g4⟩
    have G4 := Lib.hid (gb_trans GZ.out g4)
    clear g4
    go_wp2
    go_ret
    exact ⟨rfl, G4.out⟩
  rw [h2] at IW
  rw [if_neg (by rw [h2]; decide)] at HE
  clear h2
  cases h3 : okS sz
  · rw [h3] at IS
    obtain rfl : e = 9 := by rw [← HE.out]; exact if_pos h3
    clear h3 HE
    go_wp2_with fail
    refine (ID.out _).mono ?_
    rintro e w3 ⟨rfl, rfl⟩
    go_wp2_with fail
    refine (IW.out _).mono ?_
    rintro e w4 ⟨rfl, g4⟩
    have G4 := Lib.hid (gb_trans GZ.out g4)
    have t2 := g4.cell s2 (by simp)
    clear g4
    go_wp2_with fail
    refine (IS.out _).mono ?_
    rintro e w5 ⟨rfl, rfl⟩
    go_wp2
    go_ret
    exact ⟨rfl, G4.out⟩
  · rw [h3] at IS
    obtain rfl : e = 0 := by rw [← HE.out]; exact if_neg (by rw [h3]; decide)
    clear h3 HE
    go_wp2_with fail
    refine (ID.out _).mono ?_
    rintro e w3 ⟨rfl, rfl⟩
    go_wp2_with fail
    refine (IW.out _).mono ?_
    rintro e w4 ⟨rfl, g4⟩
    have G4 := Lib.hid (gb_trans GZ.out g4)
    have t2 := g4.cell s2 (by simp)
    clear g4
    go_wp2_with fail
    refine (IS.out _).mono ?_
    rintro e w5 ⟨rfl, rfl⟩
    go_wp2
    go_ret
    exact ⟨rfl, G4.out⟩
set_option maxRecDepth 100000 in
set_option maxHeartbeats 4000000 in
theorem rcheck_b (w : World) (nm : ByteArray) (wd sz : Int) (hl : nm.size ≤ 1000000) (e : Int) (he : chkG (nm, wd, sz) = e) : Calls Try.prog 10 #[.agg #[.string nm, .int .i64 wd, .int .i64 sz]] w (RetV (.int .i64 e) w) := by
  have ID := Lib.hid (fun w => Lx.risIdent_any w (Lx.bytesI nm) (Lx.bytesI_range nm) (by rw [Lx.bytesI_len]; exact hl))
  rw [Lx.bytesI_str] at ID
  unfold Lx.RetS at ID
  have HE := Lib.hid he
  unfold chkG at HE
  clear he hl
  obtain ⟨A, hA⟩ : ∃ A, A = w.heap.size := ⟨_, rfl⟩
  obtain ⟨w1, hw1⟩ : ∃ w1, w1 = w.alloc (.cells #[.string nm, .int .i64 wd, .int .i64 sz] 23) := ⟨_, rfl⟩
  have BA := Lib.hid (show IsB w1 A 23 #[.string nm, .int .i64 wd, .int .i64 sz] from by rw [hw1, hA]; exact IsB.new _ _ _)
  have GZ := Lib.hid (show w.grownBy w1 none from by rw [hw1]; exact gb_al (gb_refl _ _))
  go_enter Try.func10, Try.ntmps10
  go_upto_region 1 with fail
  rw [← hw1, ← hA]
  clear hw1 hA
  have s0 : w1.cell? ⟨A, 0, none⟩ = some (.string nm) := BA.out.cell 0
  have s1 : w1.cell? ⟨A, 1, none⟩ = some (.int .i64 wd) := BA.out.cell 1
  have s2 : w1.cell? ⟨A, 2, none⟩ = some (.int .i64 sz) := BA.out.cell 2
  cases h1 : Lx.isId (Lx.bytesI nm)
  · rw [h1] at ID
    obtain rfl : e = 6 := by rw [← HE.out]; exact if_pos h1
    clear h1 HE
    go_wp2_with fail
    refine (ID.out _).mono ?_
    rintro e w3 ⟨rfl, rfl⟩
    go_wp2
    go_ret
    exact ⟨rfl, GZ.out⟩
  rw [h1] at ID
  rw [if_neg (by rw [h1]; decide)] at HE
  clear h1
  rcases (show wd < 1 ∨ (1 ≤ wd ∧ 32 < wd) ∨ (1 ≤ wd ∧ wd ≤ 32) by omega) with q1 | ⟨q1, q2⟩ | ⟨q1, q2⟩
  · obtain rfl : e = 10 := by rw [← HE.out]; exact if_pos (decide_eq_false (by show ¬ (1 ≤ wd ∧ wd ≤ 32); omega))
    clear HE
    go_wp2_with fail
    refine (ID.out _).mono ?_
    rintro e w3 ⟨rfl, rfl⟩
    go_wp2
    go_ret
    exact ⟨rfl, GZ.out⟩
  · obtain rfl : e = 10 := by rw [← HE.out]; exact if_pos (decide_eq_false (by show ¬ (1 ≤ wd ∧ wd ≤ 32); omega))
    clear HE
    go_wp2_with fail
    refine (ID.out _).mono ?_
    rintro e w3 ⟨rfl, rfl⟩
    go_wp2
    go_ret
    exact ⟨rfl, GZ.out⟩
  rw [if_neg (by rw [show okW wd = true from decide_eq_true ⟨q1, q2⟩]; decide)] at HE
  rcases (show sz < 1 ∨ (1 ≤ sz ∧ 64 < sz) ∨ (1 ≤ sz ∧ sz ≤ 64) by omega) with q3 | ⟨q3, q4⟩ | ⟨q3, q4⟩
  · obtain rfl : e = 9 := by rw [← HE.out]; exact if_pos (decide_eq_false (by show ¬ (1 ≤ sz ∧ sz ≤ 64); omega))
    clear HE
    go_wp2_with fail
    refine (ID.out _).mono ?_
    rintro e w3 ⟨rfl, rfl⟩
    go_wp2
    go_ret
    exact ⟨rfl, GZ.out⟩
  · obtain rfl : e = 9 := by rw [← HE.out]; exact if_pos (decide_eq_false (by show ¬ (1 ≤ sz ∧ sz ≤ 64); omega))
    clear HE
    go_wp2_with fail
    refine (ID.out _).mono ?_
    rintro e w3 ⟨rfl, rfl⟩
    go_wp2
    go_ret
    exact ⟨rfl, GZ.out⟩
  · obtain rfl : e = 0 := by rw [← HE.out]; exact if_neg (by rw [show okS sz = true from decide_eq_true ⟨q3, q4⟩]; decide)
    clear HE
    go_wp2_with fail
    refine (ID.out _).mono ?_
    rintro e w3 ⟨rfl, rfl⟩
    go_wp2
    go_ret
    exact ⟨rfl, GZ.out⟩
end Go.Proofs.Ytjbimeahcldaoaa
