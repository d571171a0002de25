/- What an attribute does in the model. No condition of its own. -/
import Derived.Test.YtpdonghdnaehhaaGreatDoorZParse
import Derived.Test.YtpdonghdnaehhaaGreatDoorZSpecRead
import Derived.Test.YtpdonghdnaehhaaGreatDoorZGi
namespace Go.Proofs.YtpdonghdnaehhaaGreatDoor
open Go.ChangeShapes Go.WideShapes Go.ChangeAt Go.WideMaps Go.WideElems Go.RowKit

theorem head_at46 {t : ByteArray} (h : 0 < t.size) : (((t[0]'h).toNat : Int) == 46) = dotB t := by
  have hl : 0 < t.data.toList.length := by simpa using h
  have e : t.data.toList.head? = some (t[0]'h) := by
    rw [List.head?_eq_getElem?, List.getElem?_eq_getElem hl]
    rfl
  rw [dotB, e, Option.some_beq_some, Bool.eq_iff_iff, beq_iff_eq, beq_iff_eq, ← UInt8.toNat_inj]
  show _ ↔ (t[0]'h).toNat = 46
  omega
theorem head_at47 {t : ByteArray} (h : 0 < t.size) : (((t[0]'h).toNat : Int) == 47) = slashB t := by
  have hl : 0 < t.data.toList.length := by simpa using h
  have e : t.data.toList.head? = some (t[0]'h) := by
    rw [List.head?_eq_getElem?, List.getElem?_eq_getElem hl]
    rfl
  rw [slashB, e, Option.some_beq_some, Bool.eq_iff_iff, beq_iff_eq, beq_iff_eq, ← UInt8.toNat_inj]
  show _ ↔ (t[0]'h).toNat = 47
  omega
theorem no_bytes {t : ByteArray} (h : ¬ 0 < t.size) : t.data.toList = [] := by
  have e : t.data.toList.length = t.size := by simp
  exact List.eq_nil_of_length_eq_zero (by omega)
theorem head_none46 {t : ByteArray} (h : ¬ 0 < t.size) : dotB t = false := by rw [dotB, no_bytes h]; rfl
theorem head_none47 {t : ByteArray} (h : ¬ 0 < t.size) : slashB t = false := by rw [slashB, no_bytes h]; rfl
theorem name_not {u k : ByteArray} (h : u ≠ k) : (u.toList == k.toList) = false := seq_false h
theorem name_not2 {u k : ByteArray} {l : List UInt8} (h : u ≠ k) (hk : k.data.toList = l) : (u.toList == l) = false := by
  have h2 := name_not h
  rw [ByteArray.toList_eq k, hk] at h2
  exact h2
theorem at_none {u : ByteArray} (e1 : u ≠ kExpires) (e2 : u ≠ kMaxAge) (e3 : u ≠ kDomain) (e4 : u ≠ kPath) (e5 : u ≠ kSecure) (e6 : u ≠ kHttpOnly) (e7 : u ≠ kSameSite) : atN u = 0 := by
  rw [atN, if_neg e1, if_neg e2, if_neg e3, if_neg e4, if_neg e5, if_neg e6, if_neg e7]
set_option maxHeartbeats 8000000 in
set_option maxRecDepth 100000 in
theorem specAttr (n v d p : ByteArray) (he ha hp : Bool) (x a s : Int) (sc ho : Bool) (nm t : ByteArray) (w : World) (hn : nm.size ≤ 65536) (ht : t.size ≤ 1048576) : Calls Tryz.prog 186 #[.agg #[.string n, .string v, .string d, .string p, .bool he, .bool ha, .bool hp, .int .i64 x, .int .i64 a, .int .i64 s, .bool sc, .bool ho], .string nm, .string t] w fun e w' => e = .returned (psV (if t.size ≤ 60 then doA ⟨n, v, d, p, he, ha, hp, x, a, s, sc, ho⟩ (atN (foldB nm)) t else ⟨n, v, d, p, he, ha, hp, x, a, s, sc, ho⟩)) ∧ Below w.heap.size w w' := by
  have B0 := Lib.hid (((Below.refl w.heap.size w).alloc (Nat.le_refl _) (.cells #[.string n, .string v, .string d, .string p, .bool he, .bool ha, .bool hp, .int .i64 x, .int .i64 a, .int .i64 s, .bool sc, .bool ho] 24)).alloc (by simp) (.cells #[.string ⟨#[]⟩, .string ⟨#[]⟩, .string ⟨#[]⟩, .string ⟨#[]⟩, .bool false, .bool false, .bool false, .int .i64 0, .int .i64 0, .int .i64 0, .bool false, .bool false] 24))
  have P0 := Lib.hid ((PsB.new w n v d p he ha hp x a s sc ho).alloc (.cells #[.string ⟨#[]⟩, .string ⟨#[]⟩, .string ⟨#[]⟩, .string ⟨#[]⟩, .bool false, .bool false, .bool false, .int .i64 0, .int .i64 0, .int .i64 0, .bool false, .bool false] 24))
  have hr := PsQ.zero (w.alloc (.cells #[.string n, .string v, .string d, .string p, .bool he, .bool ha, .bool hp, .int .i64 x, .int .i64 a, .int .i64 s, .bool sc, .bool ho] 24))
  rw [World.size_alloc] at hr
  have R0 := Lib.hid hr
  clear hr
  by_cases h60 : t.size ≤ 60
  · have HE : Hid ((if t.size ≤ 60 then doA ⟨n, v, d, p, he, ha, hp, x, a, s, sc, ho⟩ (atN (foldB nm)) t else ⟨n, v, d, p, he, ha, hp, x, a, s, sc, ho⟩) = doA ⟨n, v, d, p, he, ha, hp, x, a, s, sc, ho⟩ (atN (foldB nm)) t) := Lib.hid (if_pos h60)
    rw [HE.out]
    have HF : Hid (foldL nm.data.toList = foldB nm) := Lib.hid (by rw [foldB, if_pos hn])
    have ht1 : t.size ≤ maxLen := by unfold maxLen; omega
    obtain ⟨u, hu⟩ : ∃ u, foldB nm = u := ⟨_, rfl⟩
    rw [hu] at HF ⊢
    by_cases e1 : u = kExpires
    · subst e1
      rw [show atN kExpires = 1 by decide +kernel]
      unfold kExpires at HF
      cases hd : dateR (readL t.data.toList) with
      | none =>
        have EN : Hid (doA ⟨n, v, d, p, he, ha, hp, x, a, s, sc, ho⟩ 1 t = ⟨n, v, d, p, he, ha, hp, x, a, s, sc, ho⟩) := Lib.hid (by rw [do1, expH, expX, hd])
        have HD := Lib.hid hd
        rw [EN.out]
        clear hd
        go_enter Tryz.func186, Tryz.ntmps186
        go_wp2_with fail
        refine (specFoldL nm _ hn).mono ?_
        rintro e w1 ⟨rfl, hb⟩
        rw [HF.out]
        have B1 := Lib.hid (B0.out.trans (hb.mono B0.out.size))
        have P1 := Lib.hid (P0.out.stays hb)
        have R1 := Lib.hid (R0.out.stays hb)
        have hz1 := B1.out.size
        clear hb B0 P0 R0
        obtain ⟨c0, c1, c2, c3, c4, c5, c6, c7, c8, c9, c10, c11⟩ := P1.out.at
        have fp := fun i => PsB.free P1.out i
        have fp0 := fp 0
        have fp1 := fp 1
        have fp2 := fp 2
        have fp3 := fp 3
        have fp4 := fp 4
        have fp5 := fp 5
        have fp6 := fp 6
        have fp7 := fp 7
        have fp8 := fp 8
        have fp9 := fp 9
        have fp10 := fp 10
        have fp11 := fp 11
        clear fp
        obtain ⟨r0, r1, r2, r3, r4, r5, r6, r7, r8, r9, r10, r11⟩ := (show PsB _ (w.heap.size + 1) ⟨#[]⟩ ⟨#[]⟩ ⟨#[]⟩ ⟨#[]⟩ false false false 0 0 0 false false from R1.out).at
        have f0 := PsB.free R1.out 0
        have f1 := PsB.free R1.out 1
        have f2 := PsB.free R1.out 2
        have f3 := PsB.free R1.out 3
        have f4 := PsB.free R1.out 4
        have f5 := PsB.free R1.out 5
        have f6 := PsB.free R1.out 6
        have f7 := PsB.free R1.out 7
        have f8 := PsB.free R1.out 8
        have f9 := PsB.free R1.out 9
        have f10 := PsB.free R1.out 10
        have f11 := PsB.free R1.out 11
        go_wp2_with fail
        refine (specReadL t _ (by omega)).mono ?_
        rintro e w2 ⟨y, m, dd, h, q, z, rfl, _, hb⟩
        rw [HD.out]
        have P2 := Lib.hid ((PsB.stays P1.out hb).alloc (.cells #[.int .i64 y, .int .i64 m, .int .i64 dd, .int .i64 h, .int .i64 q, .int .i64 z] 158))
        have R2 := Lib.hid (PsB.alloc (R1.out.stays hb) (.cells #[.int .i64 y, .int .i64 m, .int .i64 dd, .int .i64 h, .int .i64 q, .int .i64 z] 158))
        have B2 := Lib.hid ((B1.out.trans (hb.mono B1.out.size)).alloc (B1.out.trans (hb.mono B1.out.size)).size (.cells #[.int .i64 y, .int .i64 m, .int .i64 dd, .int .i64 h, .int .i64 q, .int .i64 z] 158))
        have P2b := Lib.hid (PsB.stays P1.out hb)
        have R2b := Lib.hid (R1.out.stays hb)
        have B2b := Lib.hid (B1.out.trans (hb.mono B1.out.size))
        have hz2 := B2b.out.size
        simp only [Option.isSome_none]
        clear hb c0 c1 c2 c3 c4 c5 c6 c7 c8 c9 c10 c11
        obtain ⟨k0, k1, k2, k3, k4, k5, k6, k7, k8, k9, k10, k11⟩ := PsB.at P2b.out
        obtain ⟨s0, s1, s2, s3, s4, s5, s6, s7, s8, s9, s10, s11⟩ := (show PsB _ (w.heap.size + 1) ⟨#[]⟩ ⟨#[]⟩ ⟨#[]⟩ ⟨#[]⟩ false false false 0 0 0 false false from R2b.out).at
        have g0 := PsB.free R2b.out 0
        have g1 := PsB.free R2b.out 1
        have g2 := PsB.free R2b.out 2
        have g3 := PsB.free R2b.out 3
        have g4 := PsB.free R2b.out 4
        have g5 := PsB.free R2b.out 5
        have g6 := PsB.free R2b.out 6
        have g7 := PsB.free R2b.out 7
        have g8 := PsB.free R2b.out 8
        have g9 := PsB.free R2b.out 9
        have g10 := PsB.free R2b.out 10
        have g11 := PsB.free R2b.out 11
        obtain ⟨d0, d1, d2, d3, d4, d5, d6, d7, d8, d9, d10, d11⟩ := PsB.at P2.out
        obtain ⟨r0, r1, r2, r3, r4, r5, r6, r7, r8, r9, r10, r11⟩ := (show PsB _ (w.heap.size + 1) ⟨#[]⟩ ⟨#[]⟩ ⟨#[]⟩ ⟨#[]⟩ false false false 0 0 0 false false from R2.out).at
        have f0 := PsB.free R2.out 0
        have f1 := PsB.free R2.out 1
        have f2 := PsB.free R2.out 2
        have f3 := PsB.free R2.out 3
        have f4 := PsB.free R2.out 4
        have f5 := PsB.free R2.out 5
        have f6 := PsB.free R2.out 6
        have f7 := PsB.free R2.out 7
        have f8 := PsB.free R2.out 8
        have f9 := PsB.free R2.out 9
        have f10 := PsB.free R2.out 10
        have f11 := PsB.free R2.out 11
        go_wp2
        obtain ⟨q0, q1, q2, q3, q4, q5, q6, q7, q8, q9, q10, q11⟩ := (PsB.put (show PsB _ (w.heap.size + 1) ⟨#[]⟩ ⟨#[]⟩ ⟨#[]⟩ ⟨#[]⟩ false false false 0 0 0 false false from R2.out) n v d p he ha hp x a s sc ho).at
        refine bodyPost_ret (v := .agg #[.string n, .string v, .string d, .string p, .bool he, .bool ha, .bool hp, .int .i64 x, .int .i64 a, .int .i64 s, .bool sc, .bool ho]) (by simp [results, Tryz.results186, go_sem, q0, q1, q2, q3, q4, q5, q6, q7, q8, q9, q10, q11]) rfl ?_
        exact ⟨rfl, putBelow B2.out (by omega) n v d p he ha hp x a s sc ho⟩
      | some dt =>
        have hok := dateR_ok hd
        obtain ⟨y, m, dd, h, q, z⟩ := dt
        have EN : Hid (doA ⟨n, v, d, p, he, ha, hp, x, a, s, sc, ho⟩ 1 t = ⟨n, v, d, p, true, ha, hp, secsN ⟨y, m, dd, h, q, z⟩, a, s, sc, ho⟩) := Lib.hid (by rw [do1, expH, expX, hd])
        have HD := Lib.hid hd
        have HOK := Lib.hid hok
        rw [EN.out]
        clear hd hok
        go_enter Tryz.func186, Tryz.ntmps186
        go_wp2_with fail
        refine (specFoldL nm _ hn).mono ?_
        rintro e w1 ⟨rfl, hb⟩
        rw [HF.out]
        have B1 := Lib.hid (B0.out.trans (hb.mono B0.out.size))
        have P1 := Lib.hid (P0.out.stays hb)
        have R1 := Lib.hid (R0.out.stays hb)
        have hz1 := B1.out.size
        clear hb B0 P0 R0
        obtain ⟨c0, c1, c2, c3, c4, c5, c6, c7, c8, c9, c10, c11⟩ := P1.out.at
        have fp := fun i => PsB.free P1.out i
        have fp0 := fp 0
        have fp1 := fp 1
        have fp2 := fp 2
        have fp3 := fp 3
        have fp4 := fp 4
        have fp5 := fp 5
        have fp6 := fp 6
        have fp7 := fp 7
        have fp8 := fp 8
        have fp9 := fp 9
        have fp10 := fp 10
        have fp11 := fp 11
        clear fp
        obtain ⟨r0, r1, r2, r3, r4, r5, r6, r7, r8, r9, r10, r11⟩ := (show PsB _ (w.heap.size + 1) ⟨#[]⟩ ⟨#[]⟩ ⟨#[]⟩ ⟨#[]⟩ false false false 0 0 0 false false from R1.out).at
        have f0 := PsB.free R1.out 0
        have f1 := PsB.free R1.out 1
        have f2 := PsB.free R1.out 2
        have f3 := PsB.free R1.out 3
        have f4 := PsB.free R1.out 4
        have f5 := PsB.free R1.out 5
        have f6 := PsB.free R1.out 6
        have f7 := PsB.free R1.out 7
        have f8 := PsB.free R1.out 8
        have f9 := PsB.free R1.out 9
        have f10 := PsB.free R1.out 10
        have f11 := PsB.free R1.out 11
        go_wp2_with fail
        refine (specReadL t _ (by omega)).mono ?_
        rintro e w2 ⟨y', m', dd', h', q', z', rfl, hv, hb⟩
        have hve := hv _ HD.out
        simp only [Dt.mk.injEq] at hve
        obtain ⟨rfl, rfl, rfl, rfl, rfl, rfl⟩ := hve
        rw [HD.out]
        have P2 := Lib.hid ((PsB.stays P1.out hb).alloc (.cells #[.int .i64 y, .int .i64 m, .int .i64 dd, .int .i64 h, .int .i64 q, .int .i64 z] 158))
        have R2 := Lib.hid (PsB.alloc (R1.out.stays hb) (.cells #[.int .i64 y, .int .i64 m, .int .i64 dd, .int .i64 h, .int .i64 q, .int .i64 z] 158))
        have B2 := Lib.hid ((B1.out.trans (hb.mono B1.out.size)).alloc (B1.out.trans (hb.mono B1.out.size)).size (.cells #[.int .i64 y, .int .i64 m, .int .i64 dd, .int .i64 h, .int .i64 q, .int .i64 z] 158))
        have P2b := Lib.hid (PsB.stays P1.out hb)
        have R2b := Lib.hid (R1.out.stays hb)
        have B2b := Lib.hid (B1.out.trans (hb.mono B1.out.size))
        have hlt2 : w.heap.size < w2.heap.size := PsB.lt (PsB.stays P1.out hb)
        have hbk := (Blk.new w2 y m dd h q z).other (B' := w.heap.size) (i := 4) (v := .bool true) (by omega)
        obtain ⟨b0, b1, b2, b3, b4, b5⟩ := hbk.at
        simp only [Option.isSome_some]
        clear hb hv hbk c0 c1 c2 c3 c4 c5 c6 c7 c8 c9 c10 c11
        obtain ⟨k0, k1, k2, k3, k4, k5, k6, k7, k8, k9, k10, k11⟩ := PsB.at P2.out
        have gp4 := PsB.free P2.out 4
        have P3 := Lib.hid ((PsB.set4 P2b.out true).alloc (.cells #[.int .i64 y, .int .i64 m, .int .i64 dd, .int .i64 h, .int .i64 q, .int .i64 z] 158))
        have R3 := Lib.hid (PsB.alloc (PsB.grown R2b.out (grown_put w2 w.heap.size 4 (.bool true)) (by omega)) (.cells #[.int .i64 y, .int .i64 m, .int .i64 dd, .int .i64 h, .int .i64 q, .int .i64 z] 158))
        have hb3 := B2b.out.setCell (p := ⟨w.heap.size, 4, none⟩) (Nat.le_refl _) (.bool true)
        have B3 := Lib.hid (hb3.alloc hb3.size (.cells #[.int .i64 y, .int .i64 m, .int .i64 dd, .int .i64 h, .int .i64 q, .int .i64 z] 158))
        clear hb3
        go_wp2_with fail
        refine (specSecsL y m dd h q z _ HOK.out).mono ?_
        rintro e w4 ⟨rfl, hb⟩
        have P4 := Lib.hid (PsB.stays P3.out hb)
        have R4 := Lib.hid (PsB.stays R3.out hb)
        have B4 := Lib.hid (B3.out.trans (hb.mono B3.out.size))
        clear hb k0 k1 k2 k3 k4 k5 k6 k7 k8 k9 k10 k11 b0 b1 b2 b3 b4 b5
        obtain ⟨l0, l1, l2, l3, l4, l5, l6, l7, l8, l9, l10, l11⟩ := PsB.at P4.out
        have gp7 := PsB.free P4.out 7
        obtain ⟨s0, s1, s2, s3, s4, s5, s6, s7, s8, s9, s10, s11⟩ := (show PsB _ (w.heap.size + 1) ⟨#[]⟩ ⟨#[]⟩ ⟨#[]⟩ ⟨#[]⟩ false false false 0 0 0 false false from R4.out).at
        have g0 := PsB.free R4.out 0
        have g1 := PsB.free R4.out 1
        have g2 := PsB.free R4.out 2
        have g3 := PsB.free R4.out 3
        have g4 := PsB.free R4.out 4
        have g5 := PsB.free R4.out 5
        have g6 := PsB.free R4.out 6
        have g7 := PsB.free R4.out 7
        have g8 := PsB.free R4.out 8
        have g9 := PsB.free R4.out 9
        have g10 := PsB.free R4.out 10
        have g11 := PsB.free R4.out 11
        have P5 := Lib.hid (PsB.set7 P4.out (secsN ⟨y, m, dd, h, q, z⟩))
        have R5 := Lib.hid (PsB.grown R4.out (grown_put w4 w.heap.size 7 (.int .i64 (secsN ⟨y, m, dd, h, q, z⟩))) (by omega))
        have B5 := Lib.hid (B4.out.setCell (p := ⟨w.heap.size, 7, none⟩) (Nat.le_refl _) (.int .i64 (secsN ⟨y, m, dd, h, q, z⟩)))
        obtain ⟨d0, d1, d2, d3, d4, d5, d6, d7, d8, d9, d10, d11⟩ := PsB.at P5.out
        obtain ⟨r0, r1, r2, r3, r4, r5, r6, r7, r8, r9, r10, r11⟩ := (show PsB _ (w.heap.size + 1) ⟨#[]⟩ ⟨#[]⟩ ⟨#[]⟩ ⟨#[]⟩ false false false 0 0 0 false false from R5.out).at
        have f0 := PsB.free R5.out 0
        have f1 := PsB.free R5.out 1
        have f2 := PsB.free R5.out 2
        have f3 := PsB.free R5.out 3
        have f4 := PsB.free R5.out 4
        have f5 := PsB.free R5.out 5
        have f6 := PsB.free R5.out 6
        have f7 := PsB.free R5.out 7
        have f8 := PsB.free R5.out 8
        have f9 := PsB.free R5.out 9
        have f10 := PsB.free R5.out 10
        have f11 := PsB.free R5.out 11
        go_wp2
        obtain ⟨q0, q1, q2, q3, q4, q5, q6, q7, q8, q9, q10, q11⟩ := (PsB.put (show PsB _ (w.heap.size + 1) ⟨#[]⟩ ⟨#[]⟩ ⟨#[]⟩ ⟨#[]⟩ false false false 0 0 0 false false from R5.out) n v d p true ha hp (secsN ⟨y, m, dd, h, q, z⟩) a s sc ho).at
        refine bodyPost_ret (v := .agg #[.string n, .string v, .string d, .string p, .bool true, .bool ha, .bool hp, .int .i64 (secsN ⟨y, m, dd, h, q, z⟩), .int .i64 a, .int .i64 s, .bool sc, .bool ho]) (by simp [results, Tryz.results186, go_sem, q0, q1, q2, q3, q4, q5, q6, q7, q8, q9, q10, q11]) rfl ?_
        exact ⟨rfl, putBelow B5.out (by omega) n v d p true ha hp (secsN ⟨y, m, dd, h, q, z⟩) a s sc ho⟩
    by_cases e2 : u = kMaxAge
    · subst e2
      rw [show atN kMaxAge = 2 by decide +kernel]
      unfold kMaxAge at HF
      cases hd : decOK t with
      | true =>
        have EN : Hid (doA ⟨n, v, d, p, he, ha, hp, x, a, s, sc, ho⟩ 2 t = ⟨n, v, d, p, he, true, hp, x, decN t, s, sc, ho⟩) := Lib.hid (by rw [do2, hd]; rfl)
        have HD := Lib.hid hd
        rw [EN.out]
        clear hd
        go_enter Tryz.func186, Tryz.ntmps186
        go_wp2_with fail
        refine (specFoldL nm _ hn).mono ?_
        rintro e w1 ⟨rfl, hb⟩
        rw [HF.out]
        have B1 := Lib.hid (B0.out.trans (hb.mono B0.out.size))
        have P1 := Lib.hid (P0.out.stays hb)
        have R1 := Lib.hid (R0.out.stays hb)
        have hz1 := B1.out.size
        clear hb B0 P0 R0
        obtain ⟨c0, c1, c2, c3, c4, c5, c6, c7, c8, c9, c10, c11⟩ := P1.out.at
        have fp := fun i => PsB.free P1.out i
        have fp0 := fp 0
        have fp1 := fp 1
        have fp2 := fp 2
        have fp3 := fp 3
        have fp4 := fp 4
        have fp5 := fp 5
        have fp6 := fp 6
        have fp7 := fp 7
        have fp8 := fp 8
        have fp9 := fp 9
        have fp10 := fp 10
        have fp11 := fp 11
        clear fp
        obtain ⟨r0, r1, r2, r3, r4, r5, r6, r7, r8, r9, r10, r11⟩ := (show PsB _ (w.heap.size + 1) ⟨#[]⟩ ⟨#[]⟩ ⟨#[]⟩ ⟨#[]⟩ false false false 0 0 0 false false from R1.out).at
        have f0 := PsB.free R1.out 0
        have f1 := PsB.free R1.out 1
        have f2 := PsB.free R1.out 2
        have f3 := PsB.free R1.out 3
        have f4 := PsB.free R1.out 4
        have f5 := PsB.free R1.out 5
        have f6 := PsB.free R1.out 6
        have f7 := PsB.free R1.out 7
        have f8 := PsB.free R1.out 8
        have f9 := PsB.free R1.out 9
        have f10 := PsB.free R1.out 10
        have f11 := PsB.free R1.out 11
        have P2 := Lib.hid (PsB.set5 P1.out true)
        have R2 := Lib.hid (R1.out.turned (grown_put w1 w.heap.size 5 (.bool true)) (by omega))
        have B2 := Lib.hid (B1.out.setCell (p := ⟨w.heap.size, 5, none⟩) (Nat.le_refl _) (.bool true))
        have P3 := Lib.hid (PsB.set8 P2.out (decN t))
        have R3 := Lib.hid (R2.out.turned (grown_put (w1.setCell ⟨w.heap.size, 5, none⟩ (.bool true)) w.heap.size 8 (.int .i64 (decN t))) (by omega))
        have B3 := Lib.hid (B2.out.setCell (p := ⟨w.heap.size, 8, none⟩) (Nat.le_refl _) (.int .i64 (decN t)))
        go_wp2_with (go_at_call 86; refine (specDec t _ ht1).mono ?_; rintro e w2 ⟨rfl, rfl⟩; rw [HD.out])
        obtain ⟨d0, d1, d2, d3, d4, d5, d6, d7, d8, d9, d10, d11⟩ := PsB.at P3.out
        obtain ⟨r0, r1, r2, r3, r4, r5, r6, r7, r8, r9, r10, r11⟩ := (show PsB _ (w.heap.size + 1) ⟨#[]⟩ ⟨#[]⟩ ⟨#[]⟩ ⟨#[]⟩ false false false 0 0 0 false false from R3.out).at
        have f0 := PsB.free R3.out 0
        have f1 := PsB.free R3.out 1
        have f2 := PsB.free R3.out 2
        have f3 := PsB.free R3.out 3
        have f4 := PsB.free R3.out 4
        have f5 := PsB.free R3.out 5
        have f6 := PsB.free R3.out 6
        have f7 := PsB.free R3.out 7
        have f8 := PsB.free R3.out 8
        have f9 := PsB.free R3.out 9
        have f10 := PsB.free R3.out 10
        have f11 := PsB.free R3.out 11
        obtain ⟨q0, q1, q2, q3, q4, q5, q6, q7, q8, q9, q10, q11⟩ := (PsB.put (show PsB _ (w.heap.size + 1) ⟨#[]⟩ ⟨#[]⟩ ⟨#[]⟩ ⟨#[]⟩ false false false 0 0 0 false false from R3.out) n v d p he true hp x (decN t) s sc ho).at
        refine bodyPost_ret (v := .agg #[.string n, .string v, .string d, .string p, .bool he, .bool true, .bool hp, .int .i64 x, .int .i64 (decN t), .int .i64 s, .bool sc, .bool ho]) (by simp [results, Tryz.results186, go_sem, q0, q1, q2, q3, q4, q5, q6, q7, q8, q9, q10, q11]) rfl ?_
        exact ⟨rfl, putBelow B3.out (by omega) n v d p he true hp x (decN t) s sc ho⟩
      | false =>
        have EN : Hid (doA ⟨n, v, d, p, he, ha, hp, x, a, s, sc, ho⟩ 2 t = ⟨n, v, d, p, he, ha, hp, x, a, s, sc, ho⟩) := Lib.hid (by rw [do2, hd]; rfl)
        have HD := Lib.hid hd
        rw [EN.out]
        clear hd
        go_enter Tryz.func186, Tryz.ntmps186
        go_wp2_with fail
        refine (specFoldL nm _ hn).mono ?_
        rintro e w1 ⟨rfl, hb⟩
        rw [HF.out]
        have B1 := Lib.hid (B0.out.trans (hb.mono B0.out.size))
        have P1 := Lib.hid (P0.out.stays hb)
        have R1 := Lib.hid (R0.out.stays hb)
        have hz1 := B1.out.size
        clear hb B0 P0 R0
        obtain ⟨c0, c1, c2, c3, c4, c5, c6, c7, c8, c9, c10, c11⟩ := P1.out.at
        have fp := fun i => PsB.free P1.out i
        have fp0 := fp 0
        have fp1 := fp 1
        have fp2 := fp 2
        have fp3 := fp 3
        have fp4 := fp 4
        have fp5 := fp 5
        have fp6 := fp 6
        have fp7 := fp 7
        have fp8 := fp 8
        have fp9 := fp 9
        have fp10 := fp 10
        have fp11 := fp 11
        clear fp
        obtain ⟨r0, r1, r2, r3, r4, r5, r6, r7, r8, r9, r10, r11⟩ := (show PsB _ (w.heap.size + 1) ⟨#[]⟩ ⟨#[]⟩ ⟨#[]⟩ ⟨#[]⟩ false false false 0 0 0 false false from R1.out).at
        have f0 := PsB.free R1.out 0
        have f1 := PsB.free R1.out 1
        have f2 := PsB.free R1.out 2
        have f3 := PsB.free R1.out 3
        have f4 := PsB.free R1.out 4
        have f5 := PsB.free R1.out 5
        have f6 := PsB.free R1.out 6
        have f7 := PsB.free R1.out 7
        have f8 := PsB.free R1.out 8
        have f9 := PsB.free R1.out 9
        have f10 := PsB.free R1.out 10
        have f11 := PsB.free R1.out 11
        go_wp2_with (go_at_call 86; refine (specDec t _ ht1).mono ?_; rintro e w2 ⟨rfl, rfl⟩; rw [HD.out])
        obtain ⟨d0, d1, d2, d3, d4, d5, d6, d7, d8, d9, d10, d11⟩ := PsB.at P1.out
        obtain ⟨r0, r1, r2, r3, r4, r5, r6, r7, r8, r9, r10, r11⟩ := (show PsB _ (w.heap.size + 1) ⟨#[]⟩ ⟨#[]⟩ ⟨#[]⟩ ⟨#[]⟩ false false false 0 0 0 false false from R1.out).at
        have f0 := PsB.free R1.out 0
        have f1 := PsB.free R1.out 1
        have f2 := PsB.free R1.out 2
        have f3 := PsB.free R1.out 3
        have f4 := PsB.free R1.out 4
        have f5 := PsB.free R1.out 5
        have f6 := PsB.free R1.out 6
        have f7 := PsB.free R1.out 7
        have f8 := PsB.free R1.out 8
        have f9 := PsB.free R1.out 9
        have f10 := PsB.free R1.out 10
        have f11 := PsB.free R1.out 11
        obtain ⟨q0, q1, q2, q3, q4, q5, q6, q7, q8, q9, q10, q11⟩ := (PsB.put (show PsB _ (w.heap.size + 1) ⟨#[]⟩ ⟨#[]⟩ ⟨#[]⟩ ⟨#[]⟩ false false false 0 0 0 false false from R1.out) n v d p he ha hp x a s sc ho).at
        refine bodyPost_ret (v := .agg #[.string n, .string v, .string d, .string p, .bool he, .bool ha, .bool hp, .int .i64 x, .int .i64 a, .int .i64 s, .bool sc, .bool ho]) (by simp [results, Tryz.results186, go_sem, q0, q1, q2, q3, q4, q5, q6, q7, q8, q9, q10, q11]) rfl ?_
        exact ⟨rfl, putBelow B1.out (by omega) n v d p he ha hp x a s sc ho⟩
    by_cases e3 : u = kDomain
    · subst e3
      rw [show atN kDomain = 3 by decide +kernel]
      unfold kDomain at HF
      have EN := Lib.hid (do3 ⟨n, v, d, p, he, ha, hp, x, a, s, sc, ho⟩ t)
      rw [EN.out]
      by_cases h0 : 0 < t.size
      · have fh := head_at46 h0
        cases hdt : dotB t with
        | true =>
          rw [hdt] at fh
          have HU : Hid (undotB t = t.extract 1 t.size) := Lib.hid (by rw [undotB, hdt]; rfl)
          rw [HU.out]
          clear hdt
          go_enter Tryz.func186, Tryz.ntmps186
          go_wp2_with fail
          refine (specFoldL nm _ hn).mono ?_
          rintro e w1 ⟨rfl, hb⟩
          rw [HF.out]
          have B1 := Lib.hid (B0.out.trans (hb.mono B0.out.size))
          have P1 := Lib.hid (P0.out.stays hb)
          have R1 := Lib.hid (R0.out.stays hb)
          have hz1 := B1.out.size
          clear hb B0 P0 R0
          obtain ⟨c0, c1, c2, c3, c4, c5, c6, c7, c8, c9, c10, c11⟩ := P1.out.at
          have fp := fun i => PsB.free P1.out i
          have fp0 := fp 0
          have fp1 := fp 1
          have fp2 := fp 2
          have fp3 := fp 3
          have fp4 := fp 4
          have fp5 := fp 5
          have fp6 := fp 6
          have fp7 := fp 7
          have fp8 := fp 8
          have fp9 := fp 9
          have fp10 := fp 10
          have fp11 := fp 11
          clear fp
          obtain ⟨r0, r1, r2, r3, r4, r5, r6, r7, r8, r9, r10, r11⟩ := (show PsB _ (w.heap.size + 1) ⟨#[]⟩ ⟨#[]⟩ ⟨#[]⟩ ⟨#[]⟩ false false false 0 0 0 false false from R1.out).at
          have f0 := PsB.free R1.out 0
          have f1 := PsB.free R1.out 1
          have f2 := PsB.free R1.out 2
          have f3 := PsB.free R1.out 3
          have f4 := PsB.free R1.out 4
          have f5 := PsB.free R1.out 5
          have f6 := PsB.free R1.out 6
          have f7 := PsB.free R1.out 7
          have f8 := PsB.free R1.out 8
          have f9 := PsB.free R1.out 9
          have f10 := PsB.free R1.out 10
          have f11 := PsB.free R1.out 11
          have hus : (t.extract 1 t.size).size ≤ 65536 := by first | omega | (simp; omega)
          have HF2 : Hid (foldL (t.extract 1 t.size).data.toList = foldB (t.extract 1 t.size)) := Lib.hid (by rw [foldB, if_pos hus])
          have hfs : (foldB (t.extract 1 t.size)).size ≤ 65536 := by rw [fold_size hus]; exact hus
          have HT2 : Hid ((⟨(rightL (leftL (foldB (t.extract 1 t.size)).data.toList)).toArray⟩ : ByteArray) = trimB (foldB (t.extract 1 t.size))) := Lib.hid (by rw [trimB, if_pos hfs])
          go_wp2_with fail
          refine (specFoldL (t.extract 1 t.size) _ hus).mono ?_
          rintro e w2 ⟨rfl, hb⟩
          rw [HF2.out]
          have P2 := Lib.hid (PsB.stays P1.out hb)
          have R2 := Lib.hid (R1.out.stays hb)
          have B2 := Lib.hid (B1.out.trans (hb.mono B1.out.size))
          clear hb c0 c1 c2 c3 c4 c5 c6 c7 c8 c9 c10 c11
          obtain ⟨k0, k1, k2, k3, k4, k5, k6, k7, k8, k9, k10, k11⟩ := PsB.at P2.out
          have gp2 := PsB.free P2.out 2
          obtain ⟨s0, s1, s2, s3, s4, s5, s6, s7, s8, s9, s10, s11⟩ := (show PsB _ (w.heap.size + 1) ⟨#[]⟩ ⟨#[]⟩ ⟨#[]⟩ ⟨#[]⟩ false false false 0 0 0 false false from R2.out).at
          have g0 := PsB.free R2.out 0
          have g1 := PsB.free R2.out 1
          have g2 := PsB.free R2.out 2
          have g3 := PsB.free R2.out 3
          have g4 := PsB.free R2.out 4
          have g5 := PsB.free R2.out 5
          have g6 := PsB.free R2.out 6
          have g7 := PsB.free R2.out 7
          have g8 := PsB.free R2.out 8
          have g9 := PsB.free R2.out 9
          have g10 := PsB.free R2.out 10
          have g11 := PsB.free R2.out 11
          have hz2 := B2.out.size
          have P3 := Lib.hid (PsB.set2 P2.out (trimB (foldB (t.extract 1 t.size))))
          have R3 := Lib.hid (R2.out.turned (grown_put w2 w.heap.size 2 (.string (trimB (foldB (t.extract 1 t.size))))) (by omega))
          have B3 := Lib.hid (B2.out.setCell (p := ⟨w.heap.size, 2, none⟩) (Nat.le_refl _) (.string (trimB (foldB (t.extract 1 t.size)))))
          go_wp2_with (go_at_call 185; refine (specTrimL (foldB (t.extract 1 t.size)) _ (by unfold maxLen; omega)).mono ?_; rintro e w3 ⟨rfl, rfl⟩; rw [HT2.out])
          obtain ⟨d0, d1, d2, d3, d4, d5, d6, d7, d8, d9, d10, d11⟩ := PsB.at P3.out
          obtain ⟨r0, r1, r2, r3, r4, r5, r6, r7, r8, r9, r10, r11⟩ := (show PsB _ (w.heap.size + 1) ⟨#[]⟩ ⟨#[]⟩ ⟨#[]⟩ ⟨#[]⟩ false false false 0 0 0 false false from R3.out).at
          have f0 := PsB.free R3.out 0
          have f1 := PsB.free R3.out 1
          have f2 := PsB.free R3.out 2
          have f3 := PsB.free R3.out 3
          have f4 := PsB.free R3.out 4
          have f5 := PsB.free R3.out 5
          have f6 := PsB.free R3.out 6
          have f7 := PsB.free R3.out 7
          have f8 := PsB.free R3.out 8
          have f9 := PsB.free R3.out 9
          have f10 := PsB.free R3.out 10
          have f11 := PsB.free R3.out 11
          obtain ⟨q0, q1, q2, q3, q4, q5, q6, q7, q8, q9, q10, q11⟩ := (PsB.put (show PsB _ (w.heap.size + 1) ⟨#[]⟩ ⟨#[]⟩ ⟨#[]⟩ ⟨#[]⟩ false false false 0 0 0 false false from R3.out) n v (trimB (foldB (t.extract 1 t.size))) p he ha hp x a s sc ho).at
          refine bodyPost_ret (v := .agg #[.string n, .string v, .string (trimB (foldB (t.extract 1 t.size))), .string p, .bool he, .bool ha, .bool hp, .int .i64 x, .int .i64 a, .int .i64 s, .bool sc, .bool ho]) (by simp [results, Tryz.results186, go_sem, q0, q1, q2, q3, q4, q5, q6, q7, q8, q9, q10, q11]) rfl ?_
          exact ⟨rfl, putBelow B3.out (by omega) n v (trimB (foldB (t.extract 1 t.size))) p he ha hp x a s sc ho⟩
        | false =>
          rw [hdt] at fh
          have HU : Hid (undotB t = t) := Lib.hid (by rw [undotB, hdt]; rfl)
          rw [HU.out]
          clear hdt
          go_enter Tryz.func186, Tryz.ntmps186
          go_wp2_with fail
          refine (specFoldL nm _ hn).mono ?_
          rintro e w1 ⟨rfl, hb⟩
          rw [HF.out]
          have B1 := Lib.hid (B0.out.trans (hb.mono B0.out.size))
          have P1 := Lib.hid (P0.out.stays hb)
          have R1 := Lib.hid (R0.out.stays hb)
          have hz1 := B1.out.size
          clear hb B0 P0 R0
          obtain ⟨c0, c1, c2, c3, c4, c5, c6, c7, c8, c9, c10, c11⟩ := P1.out.at
          have fp := fun i => PsB.free P1.out i
          have fp0 := fp 0
          have fp1 := fp 1
          have fp2 := fp 2
          have fp3 := fp 3
          have fp4 := fp 4
          have fp5 := fp 5
          have fp6 := fp 6
          have fp7 := fp 7
          have fp8 := fp 8
          have fp9 := fp 9
          have fp10 := fp 10
          have fp11 := fp 11
          clear fp
          obtain ⟨r0, r1, r2, r3, r4, r5, r6, r7, r8, r9, r10, r11⟩ := (show PsB _ (w.heap.size + 1) ⟨#[]⟩ ⟨#[]⟩ ⟨#[]⟩ ⟨#[]⟩ false false false 0 0 0 false false from R1.out).at
          have f0 := PsB.free R1.out 0
          have f1 := PsB.free R1.out 1
          have f2 := PsB.free R1.out 2
          have f3 := PsB.free R1.out 3
          have f4 := PsB.free R1.out 4
          have f5 := PsB.free R1.out 5
          have f6 := PsB.free R1.out 6
          have f7 := PsB.free R1.out 7
          have f8 := PsB.free R1.out 8
          have f9 := PsB.free R1.out 9
          have f10 := PsB.free R1.out 10
          have f11 := PsB.free R1.out 11
          have hus : (t).size ≤ 65536 := by first | omega | (simp; omega)
          have HF2 : Hid (foldL (t).data.toList = foldB (t)) := Lib.hid (by rw [foldB, if_pos hus])
          have hfs : (foldB (t)).size ≤ 65536 := by rw [fold_size hus]; exact hus
          have HT2 : Hid ((⟨(rightL (leftL (foldB (t)).data.toList)).toArray⟩ : ByteArray) = trimB (foldB (t))) := Lib.hid (by rw [trimB, if_pos hfs])
          go_wp2_with fail
          refine (specFoldL (t) _ hus).mono ?_
          rintro e w2 ⟨rfl, hb⟩
          rw [HF2.out]
          have P2 := Lib.hid (PsB.stays P1.out hb)
          have R2 := Lib.hid (R1.out.stays hb)
          have B2 := Lib.hid (B1.out.trans (hb.mono B1.out.size))
          clear hb c0 c1 c2 c3 c4 c5 c6 c7 c8 c9 c10 c11
          obtain ⟨k0, k1, k2, k3, k4, k5, k6, k7, k8, k9, k10, k11⟩ := PsB.at P2.out
          have gp2 := PsB.free P2.out 2
          obtain ⟨s0, s1, s2, s3, s4, s5, s6, s7, s8, s9, s10, s11⟩ := (show PsB _ (w.heap.size + 1) ⟨#[]⟩ ⟨#[]⟩ ⟨#[]⟩ ⟨#[]⟩ false false false 0 0 0 false false from R2.out).at
          have g0 := PsB.free R2.out 0
          have g1 := PsB.free R2.out 1
          have g2 := PsB.free R2.out 2
          have g3 := PsB.free R2.out 3
          have g4 := PsB.free R2.out 4
          have g5 := PsB.free R2.out 5
          have g6 := PsB.free R2.out 6
          have g7 := PsB.free R2.out 7
          have g8 := PsB.free R2.out 8
          have g9 := PsB.free R2.out 9
          have g10 := PsB.free R2.out 10
          have g11 := PsB.free R2.out 11
          have hz2 := B2.out.size
          have P3 := Lib.hid (PsB.set2 P2.out (trimB (foldB (t))))
          have R3 := Lib.hid (R2.out.turned (grown_put w2 w.heap.size 2 (.string (trimB (foldB (t))))) (by omega))
          have B3 := Lib.hid (B2.out.setCell (p := ⟨w.heap.size, 2, none⟩) (Nat.le_refl _) (.string (trimB (foldB (t)))))
          go_wp2_with (go_at_call 185; refine (specTrimL (foldB (t)) _ (by unfold maxLen; omega)).mono ?_; rintro e w3 ⟨rfl, rfl⟩; rw [HT2.out])
          obtain ⟨d0, d1, d2, d3, d4, d5, d6, d7, d8, d9, d10, d11⟩ := PsB.at P3.out
          obtain ⟨r0, r1, r2, r3, r4, r5, r6, r7, r8, r9, r10, r11⟩ := (show PsB _ (w.heap.size + 1) ⟨#[]⟩ ⟨#[]⟩ ⟨#[]⟩ ⟨#[]⟩ false false false 0 0 0 false false from R3.out).at
          have f0 := PsB.free R3.out 0
          have f1 := PsB.free R3.out 1
          have f2 := PsB.free R3.out 2
          have f3 := PsB.free R3.out 3
          have f4 := PsB.free R3.out 4
          have f5 := PsB.free R3.out 5
          have f6 := PsB.free R3.out 6
          have f7 := PsB.free R3.out 7
          have f8 := PsB.free R3.out 8
          have f9 := PsB.free R3.out 9
          have f10 := PsB.free R3.out 10
          have f11 := PsB.free R3.out 11
          obtain ⟨q0, q1, q2, q3, q4, q5, q6, q7, q8, q9, q10, q11⟩ := (PsB.put (show PsB _ (w.heap.size + 1) ⟨#[]⟩ ⟨#[]⟩ ⟨#[]⟩ ⟨#[]⟩ false false false 0 0 0 false false from R3.out) n v (trimB (foldB (t))) p he ha hp x a s sc ho).at
          refine bodyPost_ret (v := .agg #[.string n, .string v, .string (trimB (foldB (t))), .string p, .bool he, .bool ha, .bool hp, .int .i64 x, .int .i64 a, .int .i64 s, .bool sc, .bool ho]) (by simp [results, Tryz.results186, go_sem, q0, q1, q2, q3, q4, q5, q6, q7, q8, q9, q10, q11]) rfl ?_
          exact ⟨rfl, putBelow B3.out (by omega) n v (trimB (foldB (t))) p he ha hp x a s sc ho⟩
      · have hdt : dotB t = false := head_none46 h0
        have HU : Hid (undotB t = t) := Lib.hid (by rw [undotB, hdt]; rfl)
        rw [HU.out]
        clear hdt
        go_enter Tryz.func186, Tryz.ntmps186
        go_wp2_with fail
        refine (specFoldL nm _ hn).mono ?_
        rintro e w1 ⟨rfl, hb⟩
        rw [HF.out]
        have B1 := Lib.hid (B0.out.trans (hb.mono B0.out.size))
        have P1 := Lib.hid (P0.out.stays hb)
        have R1 := Lib.hid (R0.out.stays hb)
        have hz1 := B1.out.size
        clear hb B0 P0 R0
        obtain ⟨c0, c1, c2, c3, c4, c5, c6, c7, c8, c9, c10, c11⟩ := P1.out.at
        have fp := fun i => PsB.free P1.out i
        have fp0 := fp 0
        have fp1 := fp 1
        have fp2 := fp 2
        have fp3 := fp 3
        have fp4 := fp 4
        have fp5 := fp 5
        have fp6 := fp 6
        have fp7 := fp 7
        have fp8 := fp 8
        have fp9 := fp 9
        have fp10 := fp 10
        have fp11 := fp 11
        clear fp
        obtain ⟨r0, r1, r2, r3, r4, r5, r6, r7, r8, r9, r10, r11⟩ := (show PsB _ (w.heap.size + 1) ⟨#[]⟩ ⟨#[]⟩ ⟨#[]⟩ ⟨#[]⟩ false false false 0 0 0 false false from R1.out).at
        have f0 := PsB.free R1.out 0
        have f1 := PsB.free R1.out 1
        have f2 := PsB.free R1.out 2
        have f3 := PsB.free R1.out 3
        have f4 := PsB.free R1.out 4
        have f5 := PsB.free R1.out 5
        have f6 := PsB.free R1.out 6
        have f7 := PsB.free R1.out 7
        have f8 := PsB.free R1.out 8
        have f9 := PsB.free R1.out 9
        have f10 := PsB.free R1.out 10
        have f11 := PsB.free R1.out 11
        have hus : (t).size ≤ 65536 := by first | omega | (simp; omega)
        have HF2 : Hid (foldL (t).data.toList = foldB (t)) := Lib.hid (by rw [foldB, if_pos hus])
        have hfs : (foldB (t)).size ≤ 65536 := by rw [fold_size hus]; exact hus
        have HT2 : Hid ((⟨(rightL (leftL (foldB (t)).data.toList)).toArray⟩ : ByteArray) = trimB (foldB (t))) := Lib.hid (by rw [trimB, if_pos hfs])
        go_wp2_with fail
        refine (specFoldL (t) _ hus).mono ?_
        rintro e w2 ⟨rfl, hb⟩
        rw [HF2.out]
        have P2 := Lib.hid (PsB.stays P1.out hb)
        have R2 := Lib.hid (R1.out.stays hb)
        have B2 := Lib.hid (B1.out.trans (hb.mono B1.out.size))
        clear hb c0 c1 c2 c3 c4 c5 c6 c7 c8 c9 c10 c11
        obtain ⟨k0, k1, k2, k3, k4, k5, k6, k7, k8, k9, k10, k11⟩ := PsB.at P2.out
        have gp2 := PsB.free P2.out 2
        obtain ⟨s0, s1, s2, s3, s4, s5, s6, s7, s8, s9, s10, s11⟩ := (show PsB _ (w.heap.size + 1) ⟨#[]⟩ ⟨#[]⟩ ⟨#[]⟩ ⟨#[]⟩ false false false 0 0 0 false false from R2.out).at
        have g0 := PsB.free R2.out 0
        have g1 := PsB.free R2.out 1
        have g2 := PsB.free R2.out 2
        have g3 := PsB.free R2.out 3
        have g4 := PsB.free R2.out 4
        have g5 := PsB.free R2.out 5
        have g6 := PsB.free R2.out 6
        have g7 := PsB.free R2.out 7
        have g8 := PsB.free R2.out 8
        have g9 := PsB.free R2.out 9
        have g10 := PsB.free R2.out 10
        have g11 := PsB.free R2.out 11
        have hz2 := B2.out.size
        have P3 := Lib.hid (PsB.set2 P2.out (trimB (foldB (t))))
        have R3 := Lib.hid (R2.out.turned (grown_put w2 w.heap.size 2 (.string (trimB (foldB (t))))) (by omega))
        have B3 := Lib.hid (B2.out.setCell (p := ⟨w.heap.size, 2, none⟩) (Nat.le_refl _) (.string (trimB (foldB (t)))))
        go_wp2_with (go_at_call 185; refine (specTrimL (foldB (t)) _ (by unfold maxLen; omega)).mono ?_; rintro e w3 ⟨rfl, rfl⟩; rw [HT2.out])
        obtain ⟨d0, d1, d2, d3, d4, d5, d6, d7, d8, d9, d10, d11⟩ := PsB.at P3.out
        obtain ⟨r0, r1, r2, r3, r4, r5, r6, r7, r8, r9, r10, r11⟩ := (show PsB _ (w.heap.size + 1) ⟨#[]⟩ ⟨#[]⟩ ⟨#[]⟩ ⟨#[]⟩ false false false 0 0 0 false false from R3.out).at
        have f0 := PsB.free R3.out 0
        have f1 := PsB.free R3.out 1
        have f2 := PsB.free R3.out 2
        have f3 := PsB.free R3.out 3
        have f4 := PsB.free R3.out 4
        have f5 := PsB.free R3.out 5
        have f6 := PsB.free R3.out 6
        have f7 := PsB.free R3.out 7
        have f8 := PsB.free R3.out 8
        have f9 := PsB.free R3.out 9
        have f10 := PsB.free R3.out 10
        have f11 := PsB.free R3.out 11
        obtain ⟨q0, q1, q2, q3, q4, q5, q6, q7, q8, q9, q10, q11⟩ := (PsB.put (show PsB _ (w.heap.size + 1) ⟨#[]⟩ ⟨#[]⟩ ⟨#[]⟩ ⟨#[]⟩ false false false 0 0 0 false false from R3.out) n v (trimB (foldB (t))) p he ha hp x a s sc ho).at
        refine bodyPost_ret (v := .agg #[.string n, .string v, .string (trimB (foldB (t))), .string p, .bool he, .bool ha, .bool hp, .int .i64 x, .int .i64 a, .int .i64 s, .bool sc, .bool ho]) (by simp [results, Tryz.results186, go_sem, q0, q1, q2, q3, q4, q5, q6, q7, q8, q9, q10, q11]) rfl ?_
        exact ⟨rfl, putBelow B3.out (by omega) n v (trimB (foldB (t))) p he ha hp x a s sc ho⟩
    by_cases e4 : u = kPath
    · subst e4
      rw [show atN kPath = 4 by decide +kernel]
      unfold kPath at HF
      have EN := Lib.hid (do4 ⟨n, v, d, p, he, ha, hp, x, a, s, sc, ho⟩ t)
      rw [EN.out]
      by_cases h0 : 0 < t.size
      · have fh := head_at47 h0
        cases hsl : slashB t with
        | true =>
          rw [hsl] at fh
          have HS : Hid (slashB t = true) := Lib.hid hsl
          try rw [HS.out]
          clear hsl
          go_enter Tryz.func186, Tryz.ntmps186
          go_wp2_with fail
          refine (specFoldL nm _ hn).mono ?_
          rintro e w1 ⟨rfl, hb⟩
          rw [HF.out]
          have B1 := Lib.hid (B0.out.trans (hb.mono B0.out.size))
          have P1 := Lib.hid (P0.out.stays hb)
          have R1 := Lib.hid (R0.out.stays hb)
          have hz1 := B1.out.size
          clear hb B0 P0 R0
          obtain ⟨c0, c1, c2, c3, c4, c5, c6, c7, c8, c9, c10, c11⟩ := P1.out.at
          have fp := fun i => PsB.free P1.out i
          have fp0 := fp 0
          have fp1 := fp 1
          have fp2 := fp 2
          have fp3 := fp 3
          have fp4 := fp 4
          have fp5 := fp 5
          have fp6 := fp 6
          have fp7 := fp 7
          have fp8 := fp 8
          have fp9 := fp 9
          have fp10 := fp 10
          have fp11 := fp 11
          clear fp
          obtain ⟨r0, r1, r2, r3, r4, r5, r6, r7, r8, r9, r10, r11⟩ := (show PsB _ (w.heap.size + 1) ⟨#[]⟩ ⟨#[]⟩ ⟨#[]⟩ ⟨#[]⟩ false false false 0 0 0 false false from R1.out).at
          have f0 := PsB.free R1.out 0
          have f1 := PsB.free R1.out 1
          have f2 := PsB.free R1.out 2
          have f3 := PsB.free R1.out 3
          have f4 := PsB.free R1.out 4
          have f5 := PsB.free R1.out 5
          have f6 := PsB.free R1.out 6
          have f7 := PsB.free R1.out 7
          have f8 := PsB.free R1.out 8
          have f9 := PsB.free R1.out 9
          have f10 := PsB.free R1.out 10
          have f11 := PsB.free R1.out 11
          have P2 := Lib.hid (PsB.set6 P1.out true)
          have R2 := Lib.hid (R1.out.turned (grown_put w1 w.heap.size 6 (.bool true)) (by omega))
          have B2 := Lib.hid (B1.out.setCell (p := ⟨w.heap.size, 6, none⟩) (Nat.le_refl _) (.bool true))
          have P3 := Lib.hid (PsB.set3 P2.out ⟨#[]⟩)
          have R3 := Lib.hid (R2.out.turned (grown_put (w1.setCell ⟨w.heap.size, 6, none⟩ (.bool true)) w.heap.size 3 (.string ⟨#[]⟩)) (by omega))
          have B3 := Lib.hid (B2.out.setCell (p := ⟨w.heap.size, 3, none⟩) (Nat.le_refl _) (.string ⟨#[]⟩))
          have P4 := Lib.hid (PsB.set3 P3.out t)
          have R4 := Lib.hid (R3.out.turned (grown_put ((w1.setCell ⟨w.heap.size, 6, none⟩ (.bool true)).setCell ⟨w.heap.size, 3, none⟩ (.string ⟨#[]⟩)) w.heap.size 3 (.string t)) (by omega))
          have B4 := Lib.hid (B3.out.setCell (p := ⟨w.heap.size, 3, none⟩) (Nat.le_refl _) (.string t))
          obtain ⟨d0, d1, d2, d3, d4, d5, d6, d7, d8, d9, d10, d11⟩ := PsB.at P4.out
          obtain ⟨r0, r1, r2, r3, r4, r5, r6, r7, r8, r9, r10, r11⟩ := (show PsB _ (w.heap.size + 1) ⟨#[]⟩ ⟨#[]⟩ ⟨#[]⟩ ⟨#[]⟩ false false false 0 0 0 false false from R4.out).at
          have f0 := PsB.free R4.out 0
          have f1 := PsB.free R4.out 1
          have f2 := PsB.free R4.out 2
          have f3 := PsB.free R4.out 3
          have f4 := PsB.free R4.out 4
          have f5 := PsB.free R4.out 5
          have f6 := PsB.free R4.out 6
          have f7 := PsB.free R4.out 7
          have f8 := PsB.free R4.out 8
          have f9 := PsB.free R4.out 9
          have f10 := PsB.free R4.out 10
          have f11 := PsB.free R4.out 11
          go_wp2
          obtain ⟨q0, q1, q2, q3, q4, q5, q6, q7, q8, q9, q10, q11⟩ := (PsB.put (show PsB _ (w.heap.size + 1) ⟨#[]⟩ ⟨#[]⟩ ⟨#[]⟩ ⟨#[]⟩ false false false 0 0 0 false false from R4.out) n v d t he ha true x a s sc ho).at
          refine bodyPost_ret (v := .agg #[.string n, .string v, .string d, .string t, .bool he, .bool ha, .bool true, .int .i64 x, .int .i64 a, .int .i64 s, .bool sc, .bool ho]) (by simp [results, Tryz.results186, go_sem, q0, q1, q2, q3, q4, q5, q6, q7, q8, q9, q10, q11]) rfl ?_
          exact ⟨rfl, putBelow B4.out (by omega) n v d t he ha true x a s sc ho⟩
        | false =>
          rw [hsl] at fh
          have HS : Hid (slashB t = false) := Lib.hid hsl
          try rw [HS.out]
          clear hsl
          go_enter Tryz.func186, Tryz.ntmps186
          go_wp2_with fail
          refine (specFoldL nm _ hn).mono ?_
          rintro e w1 ⟨rfl, hb⟩
          rw [HF.out]
          have B1 := Lib.hid (B0.out.trans (hb.mono B0.out.size))
          have P1 := Lib.hid (P0.out.stays hb)
          have R1 := Lib.hid (R0.out.stays hb)
          have hz1 := B1.out.size
          clear hb B0 P0 R0
          obtain ⟨c0, c1, c2, c3, c4, c5, c6, c7, c8, c9, c10, c11⟩ := P1.out.at
          have fp := fun i => PsB.free P1.out i
          have fp0 := fp 0
          have fp1 := fp 1
          have fp2 := fp 2
          have fp3 := fp 3
          have fp4 := fp 4
          have fp5 := fp 5
          have fp6 := fp 6
          have fp7 := fp 7
          have fp8 := fp 8
          have fp9 := fp 9
          have fp10 := fp 10
          have fp11 := fp 11
          clear fp
          obtain ⟨r0, r1, r2, r3, r4, r5, r6, r7, r8, r9, r10, r11⟩ := (show PsB _ (w.heap.size + 1) ⟨#[]⟩ ⟨#[]⟩ ⟨#[]⟩ ⟨#[]⟩ false false false 0 0 0 false false from R1.out).at
          have f0 := PsB.free R1.out 0
          have f1 := PsB.free R1.out 1
          have f2 := PsB.free R1.out 2
          have f3 := PsB.free R1.out 3
          have f4 := PsB.free R1.out 4
          have f5 := PsB.free R1.out 5
          have f6 := PsB.free R1.out 6
          have f7 := PsB.free R1.out 7
          have f8 := PsB.free R1.out 8
          have f9 := PsB.free R1.out 9
          have f10 := PsB.free R1.out 10
          have f11 := PsB.free R1.out 11
          have P2 := Lib.hid (PsB.set6 P1.out false)
          have R2 := Lib.hid (R1.out.turned (grown_put w1 w.heap.size 6 (.bool false)) (by omega))
          have B2 := Lib.hid (B1.out.setCell (p := ⟨w.heap.size, 6, none⟩) (Nat.le_refl _) (.bool false))
          have P3 := Lib.hid (PsB.set3 P2.out ⟨#[]⟩)
          have R3 := Lib.hid (R2.out.turned (grown_put (w1.setCell ⟨w.heap.size, 6, none⟩ (.bool false)) w.heap.size 3 (.string ⟨#[]⟩)) (by omega))
          have B3 := Lib.hid (B2.out.setCell (p := ⟨w.heap.size, 3, none⟩) (Nat.le_refl _) (.string ⟨#[]⟩))
          obtain ⟨d0, d1, d2, d3, d4, d5, d6, d7, d8, d9, d10, d11⟩ := PsB.at P3.out
          obtain ⟨r0, r1, r2, r3, r4, r5, r6, r7, r8, r9, r10, r11⟩ := (show PsB _ (w.heap.size + 1) ⟨#[]⟩ ⟨#[]⟩ ⟨#[]⟩ ⟨#[]⟩ false false false 0 0 0 false false from R3.out).at
          have f0 := PsB.free R3.out 0
          have f1 := PsB.free R3.out 1
          have f2 := PsB.free R3.out 2
          have f3 := PsB.free R3.out 3
          have f4 := PsB.free R3.out 4
          have f5 := PsB.free R3.out 5
          have f6 := PsB.free R3.out 6
          have f7 := PsB.free R3.out 7
          have f8 := PsB.free R3.out 8
          have f9 := PsB.free R3.out 9
          have f10 := PsB.free R3.out 10
          have f11 := PsB.free R3.out 11
          go_wp2
          obtain ⟨q0, q1, q2, q3, q4, q5, q6, q7, q8, q9, q10, q11⟩ := (PsB.put (show PsB _ (w.heap.size + 1) ⟨#[]⟩ ⟨#[]⟩ ⟨#[]⟩ ⟨#[]⟩ false false false 0 0 0 false false from R3.out) n v d ⟨#[]⟩ he ha false x a s sc ho).at
          refine bodyPost_ret (v := .agg #[.string n, .string v, .string d, .string ⟨#[]⟩, .bool he, .bool ha, .bool false, .int .i64 x, .int .i64 a, .int .i64 s, .bool sc, .bool ho]) (by simp [results, Tryz.results186, go_sem, q0, q1, q2, q3, q4, q5, q6, q7, q8, q9, q10, q11]) rfl ?_
          exact ⟨rfl, putBelow B3.out (by omega) n v d ⟨#[]⟩ he ha false x a s sc ho⟩
      · have hsl : slashB t = false := head_none47 h0
        have HS : Hid (slashB t = false) := Lib.hid hsl
        try rw [HS.out]
        clear hsl
        go_enter Tryz.func186, Tryz.ntmps186
        go_wp2_with fail
        refine (specFoldL nm _ hn).mono ?_
        rintro e w1 ⟨rfl, hb⟩
        rw [HF.out]
        have B1 := Lib.hid (B0.out.trans (hb.mono B0.out.size))
        have P1 := Lib.hid (P0.out.stays hb)
        have R1 := Lib.hid (R0.out.stays hb)
        have hz1 := B1.out.size
        clear hb B0 P0 R0
        obtain ⟨c0, c1, c2, c3, c4, c5, c6, c7, c8, c9, c10, c11⟩ := P1.out.at
        have fp := fun i => PsB.free P1.out i
        have fp0 := fp 0
        have fp1 := fp 1
        have fp2 := fp 2
        have fp3 := fp 3
        have fp4 := fp 4
        have fp5 := fp 5
        have fp6 := fp 6
        have fp7 := fp 7
        have fp8 := fp 8
        have fp9 := fp 9
        have fp10 := fp 10
        have fp11 := fp 11
        clear fp
        obtain ⟨r0, r1, r2, r3, r4, r5, r6, r7, r8, r9, r10, r11⟩ := (show PsB _ (w.heap.size + 1) ⟨#[]⟩ ⟨#[]⟩ ⟨#[]⟩ ⟨#[]⟩ false false false 0 0 0 false false from R1.out).at
        have f0 := PsB.free R1.out 0
        have f1 := PsB.free R1.out 1
        have f2 := PsB.free R1.out 2
        have f3 := PsB.free R1.out 3
        have f4 := PsB.free R1.out 4
        have f5 := PsB.free R1.out 5
        have f6 := PsB.free R1.out 6
        have f7 := PsB.free R1.out 7
        have f8 := PsB.free R1.out 8
        have f9 := PsB.free R1.out 9
        have f10 := PsB.free R1.out 10
        have f11 := PsB.free R1.out 11
        have P2 := Lib.hid (PsB.set6 P1.out false)
        have R2 := Lib.hid (R1.out.turned (grown_put w1 w.heap.size 6 (.bool false)) (by omega))
        have B2 := Lib.hid (B1.out.setCell (p := ⟨w.heap.size, 6, none⟩) (Nat.le_refl _) (.bool false))
        have P3 := Lib.hid (PsB.set3 P2.out ⟨#[]⟩)
        have R3 := Lib.hid (R2.out.turned (grown_put (w1.setCell ⟨w.heap.size, 6, none⟩ (.bool false)) w.heap.size 3 (.string ⟨#[]⟩)) (by omega))
        have B3 := Lib.hid (B2.out.setCell (p := ⟨w.heap.size, 3, none⟩) (Nat.le_refl _) (.string ⟨#[]⟩))
        obtain ⟨d0, d1, d2, d3, d4, d5, d6, d7, d8, d9, d10, d11⟩ := PsB.at P3.out
        obtain ⟨r0, r1, r2, r3, r4, r5, r6, r7, r8, r9, r10, r11⟩ := (show PsB _ (w.heap.size + 1) ⟨#[]⟩ ⟨#[]⟩ ⟨#[]⟩ ⟨#[]⟩ false false false 0 0 0 false false from R3.out).at
        have f0 := PsB.free R3.out 0
        have f1 := PsB.free R3.out 1
        have f2 := PsB.free R3.out 2
        have f3 := PsB.free R3.out 3
        have f4 := PsB.free R3.out 4
        have f5 := PsB.free R3.out 5
        have f6 := PsB.free R3.out 6
        have f7 := PsB.free R3.out 7
        have f8 := PsB.free R3.out 8
        have f9 := PsB.free R3.out 9
        have f10 := PsB.free R3.out 10
        have f11 := PsB.free R3.out 11
        go_wp2
        obtain ⟨q0, q1, q2, q3, q4, q5, q6, q7, q8, q9, q10, q11⟩ := (PsB.put (show PsB _ (w.heap.size + 1) ⟨#[]⟩ ⟨#[]⟩ ⟨#[]⟩ ⟨#[]⟩ false false false 0 0 0 false false from R3.out) n v d ⟨#[]⟩ he ha false x a s sc ho).at
        refine bodyPost_ret (v := .agg #[.string n, .string v, .string d, .string ⟨#[]⟩, .bool he, .bool ha, .bool false, .int .i64 x, .int .i64 a, .int .i64 s, .bool sc, .bool ho]) (by simp [results, Tryz.results186, go_sem, q0, q1, q2, q3, q4, q5, q6, q7, q8, q9, q10, q11]) rfl ?_
        exact ⟨rfl, putBelow B3.out (by omega) n v d ⟨#[]⟩ he ha false x a s sc ho⟩
    by_cases e5 : u = kSecure
    · subst e5
      rw [show atN kSecure = 5 by decide +kernel]
      unfold kSecure at HF
      rw [do5]
      go_enter Tryz.func186, Tryz.ntmps186
      go_wp2_with fail
      refine (specFoldL nm _ hn).mono ?_
      rintro e w1 ⟨rfl, hb⟩
      rw [HF.out]
      have B1 := Lib.hid (B0.out.trans (hb.mono B0.out.size))
      have P1 := Lib.hid (P0.out.stays hb)
      have R1 := Lib.hid (R0.out.stays hb)
      have hz1 := B1.out.size
      clear hb B0 P0 R0
      obtain ⟨c0, c1, c2, c3, c4, c5, c6, c7, c8, c9, c10, c11⟩ := P1.out.at
      have fp := fun i => PsB.free P1.out i
      have fp0 := fp 0
      have fp1 := fp 1
      have fp2 := fp 2
      have fp3 := fp 3
      have fp4 := fp 4
      have fp5 := fp 5
      have fp6 := fp 6
      have fp7 := fp 7
      have fp8 := fp 8
      have fp9 := fp 9
      have fp10 := fp 10
      have fp11 := fp 11
      clear fp
      obtain ⟨r0, r1, r2, r3, r4, r5, r6, r7, r8, r9, r10, r11⟩ := (show PsB _ (w.heap.size + 1) ⟨#[]⟩ ⟨#[]⟩ ⟨#[]⟩ ⟨#[]⟩ false false false 0 0 0 false false from R1.out).at
      have f0 := PsB.free R1.out 0
      have f1 := PsB.free R1.out 1
      have f2 := PsB.free R1.out 2
      have f3 := PsB.free R1.out 3
      have f4 := PsB.free R1.out 4
      have f5 := PsB.free R1.out 5
      have f6 := PsB.free R1.out 6
      have f7 := PsB.free R1.out 7
      have f8 := PsB.free R1.out 8
      have f9 := PsB.free R1.out 9
      have f10 := PsB.free R1.out 10
      have f11 := PsB.free R1.out 11
      have P2 := Lib.hid (PsB.set10 P1.out true)
      have R2 := Lib.hid (R1.out.turned (grown_put w1 w.heap.size 10 (.bool true)) (by omega))
      have B2 := Lib.hid (B1.out.setCell (p := ⟨w.heap.size, 10, none⟩) (Nat.le_refl _) (.bool true))
      obtain ⟨d0, d1, d2, d3, d4, d5, d6, d7, d8, d9, d10, d11⟩ := PsB.at P2.out
      obtain ⟨r0, r1, r2, r3, r4, r5, r6, r7, r8, r9, r10, r11⟩ := (show PsB _ (w.heap.size + 1) ⟨#[]⟩ ⟨#[]⟩ ⟨#[]⟩ ⟨#[]⟩ false false false 0 0 0 false false from R2.out).at
      have f0 := PsB.free R2.out 0
      have f1 := PsB.free R2.out 1
      have f2 := PsB.free R2.out 2
      have f3 := PsB.free R2.out 3
      have f4 := PsB.free R2.out 4
      have f5 := PsB.free R2.out 5
      have f6 := PsB.free R2.out 6
      have f7 := PsB.free R2.out 7
      have f8 := PsB.free R2.out 8
      have f9 := PsB.free R2.out 9
      have f10 := PsB.free R2.out 10
      have f11 := PsB.free R2.out 11
      go_wp2
      obtain ⟨q0, q1, q2, q3, q4, q5, q6, q7, q8, q9, q10, q11⟩ := (PsB.put (show PsB _ (w.heap.size + 1) ⟨#[]⟩ ⟨#[]⟩ ⟨#[]⟩ ⟨#[]⟩ false false false 0 0 0 false false from R2.out) n v d p he ha hp x a s true ho).at
      refine bodyPost_ret (v := .agg #[.string n, .string v, .string d, .string p, .bool he, .bool ha, .bool hp, .int .i64 x, .int .i64 a, .int .i64 s, .bool true, .bool ho]) (by simp [results, Tryz.results186, go_sem, q0, q1, q2, q3, q4, q5, q6, q7, q8, q9, q10, q11]) rfl ?_
      exact ⟨rfl, putBelow B2.out (by omega) n v d p he ha hp x a s true ho⟩
    by_cases e6 : u = kHttpOnly
    · subst e6
      rw [show atN kHttpOnly = 6 by decide +kernel]
      unfold kHttpOnly at HF
      rw [do6]
      go_enter Tryz.func186, Tryz.ntmps186
      go_wp2_with fail
      refine (specFoldL nm _ hn).mono ?_
      rintro e w1 ⟨rfl, hb⟩
      rw [HF.out]
      have B1 := Lib.hid (B0.out.trans (hb.mono B0.out.size))
      have P1 := Lib.hid (P0.out.stays hb)
      have R1 := Lib.hid (R0.out.stays hb)
      have hz1 := B1.out.size
      clear hb B0 P0 R0
      obtain ⟨c0, c1, c2, c3, c4, c5, c6, c7, c8, c9, c10, c11⟩ := P1.out.at
      have fp := fun i => PsB.free P1.out i
      have fp0 := fp 0
      have fp1 := fp 1
      have fp2 := fp 2
      have fp3 := fp 3
      have fp4 := fp 4
      have fp5 := fp 5
      have fp6 := fp 6
      have fp7 := fp 7
      have fp8 := fp 8
      have fp9 := fp 9
      have fp10 := fp 10
      have fp11 := fp 11
      clear fp
      obtain ⟨r0, r1, r2, r3, r4, r5, r6, r7, r8, r9, r10, r11⟩ := (show PsB _ (w.heap.size + 1) ⟨#[]⟩ ⟨#[]⟩ ⟨#[]⟩ ⟨#[]⟩ false false false 0 0 0 false false from R1.out).at
      have f0 := PsB.free R1.out 0
      have f1 := PsB.free R1.out 1
      have f2 := PsB.free R1.out 2
      have f3 := PsB.free R1.out 3
      have f4 := PsB.free R1.out 4
      have f5 := PsB.free R1.out 5
      have f6 := PsB.free R1.out 6
      have f7 := PsB.free R1.out 7
      have f8 := PsB.free R1.out 8
      have f9 := PsB.free R1.out 9
      have f10 := PsB.free R1.out 10
      have f11 := PsB.free R1.out 11
      have P2 := Lib.hid (PsB.set11 P1.out true)
      have R2 := Lib.hid (R1.out.turned (grown_put w1 w.heap.size 11 (.bool true)) (by omega))
      have B2 := Lib.hid (B1.out.setCell (p := ⟨w.heap.size, 11, none⟩) (Nat.le_refl _) (.bool true))
      obtain ⟨d0, d1, d2, d3, d4, d5, d6, d7, d8, d9, d10, d11⟩ := PsB.at P2.out
      obtain ⟨r0, r1, r2, r3, r4, r5, r6, r7, r8, r9, r10, r11⟩ := (show PsB _ (w.heap.size + 1) ⟨#[]⟩ ⟨#[]⟩ ⟨#[]⟩ ⟨#[]⟩ false false false 0 0 0 false false from R2.out).at
      have f0 := PsB.free R2.out 0
      have f1 := PsB.free R2.out 1
      have f2 := PsB.free R2.out 2
      have f3 := PsB.free R2.out 3
      have f4 := PsB.free R2.out 4
      have f5 := PsB.free R2.out 5
      have f6 := PsB.free R2.out 6
      have f7 := PsB.free R2.out 7
      have f8 := PsB.free R2.out 8
      have f9 := PsB.free R2.out 9
      have f10 := PsB.free R2.out 10
      have f11 := PsB.free R2.out 11
      go_wp2
      obtain ⟨q0, q1, q2, q3, q4, q5, q6, q7, q8, q9, q10, q11⟩ := (PsB.put (show PsB _ (w.heap.size + 1) ⟨#[]⟩ ⟨#[]⟩ ⟨#[]⟩ ⟨#[]⟩ false false false 0 0 0 false false from R2.out) n v d p he ha hp x a s sc true).at
      refine bodyPost_ret (v := .agg #[.string n, .string v, .string d, .string p, .bool he, .bool ha, .bool hp, .int .i64 x, .int .i64 a, .int .i64 s, .bool sc, .bool true]) (by simp [results, Tryz.results186, go_sem, q0, q1, q2, q3, q4, q5, q6, q7, q8, q9, q10, q11]) rfl ?_
      exact ⟨rfl, putBelow B2.out (by omega) n v d p he ha hp x a s sc true⟩
    by_cases e7 : u = kSameSite
    · subst e7
      rw [show atN kSameSite = 7 by decide +kernel]
      unfold kSameSite at HF
      rw [do7]
      go_enter Tryz.func186, Tryz.ntmps186
      go_wp2_with fail
      refine (specFoldL nm _ hn).mono ?_
      rintro e w1 ⟨rfl, hb⟩
      rw [HF.out]
      have B1 := Lib.hid (B0.out.trans (hb.mono B0.out.size))
      have P1 := Lib.hid (P0.out.stays hb)
      have R1 := Lib.hid (R0.out.stays hb)
      have hz1 := B1.out.size
      clear hb B0 P0 R0
      obtain ⟨c0, c1, c2, c3, c4, c5, c6, c7, c8, c9, c10, c11⟩ := P1.out.at
      have fp := fun i => PsB.free P1.out i
      have fp0 := fp 0
      have fp1 := fp 1
      have fp2 := fp 2
      have fp3 := fp 3
      have fp4 := fp 4
      have fp5 := fp 5
      have fp6 := fp 6
      have fp7 := fp 7
      have fp8 := fp 8
      have fp9 := fp 9
      have fp10 := fp 10
      have fp11 := fp 11
      clear fp
      obtain ⟨r0, r1, r2, r3, r4, r5, r6, r7, r8, r9, r10, r11⟩ := (show PsB _ (w.heap.size + 1) ⟨#[]⟩ ⟨#[]⟩ ⟨#[]⟩ ⟨#[]⟩ false false false 0 0 0 false false from R1.out).at
      have f0 := PsB.free R1.out 0
      have f1 := PsB.free R1.out 1
      have f2 := PsB.free R1.out 2
      have f3 := PsB.free R1.out 3
      have f4 := PsB.free R1.out 4
      have f5 := PsB.free R1.out 5
      have f6 := PsB.free R1.out 6
      have f7 := PsB.free R1.out 7
      have f8 := PsB.free R1.out 8
      have f9 := PsB.free R1.out 9
      have f10 := PsB.free R1.out 10
      have f11 := PsB.free R1.out 11
      go_wp2_with fail
      refine (specSiteL t _ (by omega)).mono ?_
      rintro e w2 ⟨rfl, hb⟩
      have P2 := Lib.hid (PsB.stays P1.out hb)
      have R2 := Lib.hid (R1.out.stays hb)
      have B2 := Lib.hid (B1.out.trans (hb.mono B1.out.size))
      clear hb c0 c1 c2 c3 c4 c5 c6 c7 c8 c9 c10 c11
      obtain ⟨k0, k1, k2, k3, k4, k5, k6, k7, k8, k9, k10, k11⟩ := PsB.at P2.out
      have gp9 := PsB.free P2.out 9
      obtain ⟨s0, s1, s2, s3, s4, s5, s6, s7, s8, s9, s10, s11⟩ := (show PsB _ (w.heap.size + 1) ⟨#[]⟩ ⟨#[]⟩ ⟨#[]⟩ ⟨#[]⟩ false false false 0 0 0 false false from R2.out).at
      have g0 := PsB.free R2.out 0
      have g1 := PsB.free R2.out 1
      have g2 := PsB.free R2.out 2
      have g3 := PsB.free R2.out 3
      have g4 := PsB.free R2.out 4
      have g5 := PsB.free R2.out 5
      have g6 := PsB.free R2.out 6
      have g7 := PsB.free R2.out 7
      have g8 := PsB.free R2.out 8
      have g9 := PsB.free R2.out 9
      have g10 := PsB.free R2.out 10
      have g11 := PsB.free R2.out 11
      have hz2 := B2.out.size
      have P3 := Lib.hid (PsB.set9 P2.out (siteN (foldB t)))
      have R3 := Lib.hid (R2.out.turned (grown_put w2 w.heap.size 9 (.int .i64 (siteN (foldB t)))) (by omega))
      have B3 := Lib.hid (B2.out.setCell (p := ⟨w.heap.size, 9, none⟩) (Nat.le_refl _) (.int .i64 (siteN (foldB t))))
      obtain ⟨d0, d1, d2, d3, d4, d5, d6, d7, d8, d9, d10, d11⟩ := PsB.at P3.out
      obtain ⟨r0, r1, r2, r3, r4, r5, r6, r7, r8, r9, r10, r11⟩ := (show PsB _ (w.heap.size + 1) ⟨#[]⟩ ⟨#[]⟩ ⟨#[]⟩ ⟨#[]⟩ false false false 0 0 0 false false from R3.out).at
      have f0 := PsB.free R3.out 0
      have f1 := PsB.free R3.out 1
      have f2 := PsB.free R3.out 2
      have f3 := PsB.free R3.out 3
      have f4 := PsB.free R3.out 4
      have f5 := PsB.free R3.out 5
      have f6 := PsB.free R3.out 6
      have f7 := PsB.free R3.out 7
      have f8 := PsB.free R3.out 8
      have f9 := PsB.free R3.out 9
      have f10 := PsB.free R3.out 10
      have f11 := PsB.free R3.out 11
      go_wp2
      obtain ⟨q0, q1, q2, q3, q4, q5, q6, q7, q8, q9, q10, q11⟩ := (PsB.put (show PsB _ (w.heap.size + 1) ⟨#[]⟩ ⟨#[]⟩ ⟨#[]⟩ ⟨#[]⟩ false false false 0 0 0 false false from R3.out) n v d p he ha hp x a (siteN (foldB t)) sc ho).at
      refine bodyPost_ret (v := .agg #[.string n, .string v, .string d, .string p, .bool he, .bool ha, .bool hp, .int .i64 x, .int .i64 a, .int .i64 (siteN (foldB t)), .bool sc, .bool ho]) (by simp [results, Tryz.results186, go_sem, q0, q1, q2, q3, q4, q5, q6, q7, q8, q9, q10, q11]) rfl ?_
      exact ⟨rfl, putBelow B3.out (by omega) n v d p he ha hp x a (siteN (foldB t)) sc ho⟩
    have nf1 : (u.toList == [101, 120, 112, 105, 114, 101, 115]) = false := name_not2 e1 rfl
    have nf2 : (u.toList == [109, 97, 120, 45, 97, 103, 101]) = false := name_not2 e2 rfl
    have nf3 : (u.toList == [100, 111, 109, 97, 105, 110]) = false := name_not2 e3 rfl
    have nf4 : (u.toList == [112, 97, 116, 104]) = false := name_not2 e4 rfl
    have nf5 : (u.toList == [115, 101, 99, 117, 114, 101]) = false := name_not2 e5 rfl
    have nf6 : (u.toList == [104, 116, 116, 112, 111, 110, 108, 121]) = false := name_not2 e6 rfl
    have nf7 : (u.toList == [115, 97, 109, 101, 115, 105, 116, 101]) = false := name_not2 e7 rfl
    rw [at_none e1 e2 e3 e4 e5 e6 e7]
    clear e1 e2 e3 e4 e5 e6 e7
    rw [show doA ⟨n, v, d, p, he, ha, hp, x, a, s, sc, ho⟩ 0 t = ⟨n, v, d, p, he, ha, hp, x, a, s, sc, ho⟩ from rfl]
    go_enter Tryz.func186, Tryz.ntmps186
    go_wp2_with fail
    refine (specFoldL nm _ hn).mono ?_
    rintro e w1 ⟨rfl, hb⟩
    rw [HF.out]
    have B1 := Lib.hid (B0.out.trans (hb.mono B0.out.size))
    have P1 := Lib.hid (P0.out.stays hb)
    have R1 := Lib.hid (R0.out.stays hb)
    have hz1 := B1.out.size
    clear hb B0 P0 R0
    obtain ⟨c0, c1, c2, c3, c4, c5, c6, c7, c8, c9, c10, c11⟩ := P1.out.at
    have fp := fun i => PsB.free P1.out i
    have fp0 := fp 0
    have fp1 := fp 1
    have fp2 := fp 2
    have fp3 := fp 3
    have fp4 := fp 4
    have fp5 := fp 5
    have fp6 := fp 6
    have fp7 := fp 7
    have fp8 := fp 8
    have fp9 := fp 9
    have fp10 := fp 10
    have fp11 := fp 11
    clear fp
    obtain ⟨r0, r1, r2, r3, r4, r5, r6, r7, r8, r9, r10, r11⟩ := (show PsB _ (w.heap.size + 1) ⟨#[]⟩ ⟨#[]⟩ ⟨#[]⟩ ⟨#[]⟩ false false false 0 0 0 false false from R1.out).at
    have f0 := PsB.free R1.out 0
    have f1 := PsB.free R1.out 1
    have f2 := PsB.free R1.out 2
    have f3 := PsB.free R1.out 3
    have f4 := PsB.free R1.out 4
    have f5 := PsB.free R1.out 5
    have f6 := PsB.free R1.out 6
    have f7 := PsB.free R1.out 7
    have f8 := PsB.free R1.out 8
    have f9 := PsB.free R1.out 9
    have f10 := PsB.free R1.out 10
    have f11 := PsB.free R1.out 11
    obtain ⟨d0, d1, d2, d3, d4, d5, d6, d7, d8, d9, d10, d11⟩ := PsB.at P1.out
    obtain ⟨r0, r1, r2, r3, r4, r5, r6, r7, r8, r9, r10, r11⟩ := (show PsB _ (w.heap.size + 1) ⟨#[]⟩ ⟨#[]⟩ ⟨#[]⟩ ⟨#[]⟩ false false false 0 0 0 false false from R1.out).at
    have f0 := PsB.free R1.out 0
    have f1 := PsB.free R1.out 1
    have f2 := PsB.free R1.out 2
    have f3 := PsB.free R1.out 3
    have f4 := PsB.free R1.out 4
    have f5 := PsB.free R1.out 5
    have f6 := PsB.free R1.out 6
    have f7 := PsB.free R1.out 7
    have f8 := PsB.free R1.out 8
    have f9 := PsB.free R1.out 9
    have f10 := PsB.free R1.out 10
    have f11 := PsB.free R1.out 11
    go_wp2
    obtain ⟨q0, q1, q2, q3, q4, q5, q6, q7, q8, q9, q10, q11⟩ := (PsB.put (show PsB _ (w.heap.size + 1) ⟨#[]⟩ ⟨#[]⟩ ⟨#[]⟩ ⟨#[]⟩ false false false 0 0 0 false false from R1.out) n v d p he ha hp x a s sc ho).at
    refine bodyPost_ret (v := .agg #[.string n, .string v, .string d, .string p, .bool he, .bool ha, .bool hp, .int .i64 x, .int .i64 a, .int .i64 s, .bool sc, .bool ho]) (by simp [results, Tryz.results186, go_sem, q0, q1, q2, q3, q4, q5, q6, q7, q8, q9, q10, q11]) rfl ?_
    exact ⟨rfl, putBelow B1.out (by omega) n v d p he ha hp x a s sc ho⟩
  · have HE : Hid ((if t.size ≤ 60 then doA ⟨n, v, d, p, he, ha, hp, x, a, s, sc, ho⟩ (atN (foldB nm)) t else ⟨n, v, d, p, he, ha, hp, x, a, s, sc, ho⟩) = ⟨n, v, d, p, he, ha, hp, x, a, s, sc, ho⟩) := Lib.hid (if_neg h60)
    rw [HE.out]
    have hlong : (60 : Int) < t.size := by omega
    obtain ⟨c0, c1, c2, c3, c4, c5, c6, c7, c8, c9, c10, c11⟩ := P0.out.at
    go_enter Tryz.func186, Tryz.ntmps186
    go_wp2
    have hq := (PsB.new (w.alloc (.cells #[.string n, .string v, .string d, .string p, .bool he, .bool ha, .bool hp, .int .i64 x, .int .i64 a, .int .i64 s, .bool sc, .bool ho] 24)) n v d p he ha hp x a s sc ho).at
    rw [World.size_alloc] at hq
    obtain ⟨q0, q1, q2, q3, q4, q5, q6, q7, q8, q9, q10, q11⟩ := hq
    refine bodyPost_ret (v := .agg #[.string n, .string v, .string d, .string p, .bool he, .bool ha, .bool hp, .int .i64 x, .int .i64 a, .int .i64 s, .bool sc, .bool ho]) (by simp [results, Tryz.results186, go_sem]) rfl ?_
    exact ⟨rfl, ((Below.refl w.heap.size w).alloc (Nat.le_refl _) _).alloc (by simp) _⟩
end Go.Proofs.YtpdonghdnaehhaaGreatDoor
