/- The model's drawn text of a date: some text of at most 200 bytes. The source has been asked fewer than 700000 times. -/
import Derived.Test.YtpdonghdnaehhaaGreatDoorZGm
import Derived.Test.YtpdonghdnaehhaaGreatDoorZTextLaw
namespace Go.Proofs.YtpdonghdnaehhaaGreatDoor
open Go.ChangeShapes Go.WideShapes Go.ChangeAt Go.WideMaps Go.WideElems Go.RowKit

def lineTexts : List ByteArray := [⟨#[]⟩, ⟨#[84, 104, 117, 44, 32, 48, 49, 32, 74, 97, 110, 32, 49, 57, 55, 48, 32, 48, 48, 58, 48, 48, 58, 48, 48, 32, 71, 77, 84]⟩, ⟨#[49, 32, 106, 97, 110, 32, 55, 48, 32, 48, 58, 48, 58, 48]⟩, ⟨#[51, 49, 32, 70, 101, 98, 32, 50, 48, 48, 48, 32, 49, 48, 58, 49, 48, 58, 49, 48]⟩, ⟨#[50, 57, 45, 70, 101, 98, 45, 48, 48, 32, 50, 51, 58, 53, 57, 58, 53, 57]⟩, ⟨#[50, 57, 32, 70, 101, 98, 32, 49, 57, 48, 48, 32, 49, 58, 49, 58, 49]⟩, ⟨#[57, 57, 32, 74, 97, 110, 32, 50, 48, 48, 48, 32, 49, 58, 49, 58, 49]⟩, ⟨#[49, 48, 58, 49, 48, 58, 49, 48, 32, 50, 48, 48, 49, 32, 83, 101, 112, 116, 32, 53]⟩, ⟨#[53, 32, 50, 48, 48, 49, 32, 49, 48, 58, 49, 48, 32, 49, 48, 58, 49, 48, 58, 49, 48, 32, 100, 101, 99]⟩, ⟨#[49, 32, 49, 32, 49, 57, 57, 57, 32, 110, 111, 118, 32, 50, 52, 58, 48, 48, 58, 48, 48]⟩, ⟨#[49, 50, 58, 49, 50, 58, 49, 50, 120, 32, 53, 116, 104, 32, 77, 97, 121, 32, 49, 57, 57, 57, 65, 68]⟩, ⟨#[49, 58, 50, 58, 51, 52, 53, 32, 55, 32, 106, 97, 110, 32, 57, 57]⟩, ⟨#[55, 32, 106, 97, 110, 32, 49, 50, 51, 52, 53, 32, 49, 58, 50, 58, 51]⟩, ⟨#[55, 32, 106, 97, 110, 32, 49, 54, 48, 48, 32, 49, 58, 50, 58, 51]⟩, ⟨#[55, 32, 106, 97, 110, 32, 49, 54, 48, 49, 32, 49, 58, 50, 58, 51]⟩, ⟨#[55, 32, 106, 97, 110, 32, 54, 57, 32, 49, 58, 50, 58, 51]⟩, ⟨#[87, 101, 100, 32, 87, 101, 100, 32, 48, 56, 32, 65, 117, 103, 32, 48, 48, 56, 32, 49, 58, 49, 58, 49]⟩, ⟨#[56, 32, 106, 117, 110, 32, 57, 57, 57, 57, 32, 57, 58, 57, 58, 57]⟩]
def cutTexts : List ByteArray := [⟨#[47]⟩, ⟨#[32]⟩, ⟨#[120]⟩, ⟨#[58]⟩, ⟨#[49]⟩, ⟨#[128]⟩]
theorem line_sizes : ∀ s ∈ lineTexts, s.size ≤ 40 := by decide +kernel
theorem cut_sizes : ∀ s ∈ cutTexts, s.size ≤ 1 := by decide +kernel
/-- The digits of a number, with a stroke ahead of one below zero. -/
def digS (n : Int) : ByteArray := if n < 0 then ⟨#[45]⟩ ++ digT (-n).toNat else digT n.toNat
theorem digS_any (n : Int) (w : World) (h0 : -1 ≤ n) (h1 : n ≤ 10000) : Calls Tryz.prog 163 #[.int .i64 n] w fun e w' => e = .returned (.string (digS n)) ∧ Below w.heap.size w w' := by
  by_cases h : n = -1
  · subst h
    have hd := fun W : World => digits_any 0 1 W (by omega) (by omega)
    have HD := Lib.hid hd
    have ha := add_text ⟨#[45]⟩ (digT 1) (by have := digT_size 0 1 (by omega); show 1 + _ ≤ _; omega)
    clear hd
    go_enter Tryz.func163, Tryz.ntmps163
    go_wp2_with fail
    refine (HD.out _).mono ?_
    rintro e w1 ⟨rfl, hb⟩
    have HB := Lib.hid hb
    clear hb
    go_wp2_with fail
    go_ret
    exact ⟨rfl, HB.out⟩
  · obtain ⟨k, rfl⟩ : ∃ k : Nat, n = k := ⟨n.toNat, by omega⟩
    refine (digits_any 4 k w (by omega) (by omega)).mono ?_
    rintro e w' ⟨rfl, hb⟩
    refine ⟨?_, hb⟩
    unfold digS
    rw [if_neg (by omega)]
    rfl
theorem digS_size {n : Int} (h0 : -1 ≤ n) (h1 : n ≤ 10000) : (digS n).size ≤ 5 := by
  unfold digS
  by_cases h : n < 0
  · rw [if_pos h, ByteArray.size_append]
    have := digT_size 0 (-n).toNat (by omega)
    show 1 + _ ≤ _
    omega
  · rw [if_neg h]
    exact digT_size 4 _ (by omega)
theorem txt_size {D M : ByteArray} {y d h n s : Int} (hD : D.size = 3) (hM : M.size = 3) (hy : (⟨(Lib.itoa y).toArray⟩ : ByteArray).size ≤ 100) : 1 ≤ (⟨(txtL D.data.toList M.data.toList y d h n s).toArray⟩ : ByteArray).size ∧ (⟨(txtL D.data.toList M.data.toList y d h n s).toArray⟩ : ByteArray).size ≤ 130 := by
  have h1 : D.data.toList.length = 3 := by simpa using hD
  have h2 : M.data.toList.length = 3 := by simpa using hM
  have h3 : (Lib.itoa y).length ≤ 100 := by simpa [ByteArray.size] using hy
  have e : (⟨(txtL D.data.toList M.data.toList y d h n s).toArray⟩ : ByteArray).size = (txtL D.data.toList M.data.toList y d h n s).length := by simp [ByteArray.size]
  rw [e]
  simp only [txtL, twoL, List.length_append, List.length_cons, List.length_nil, h1, h2]
  omega
def LG (b : Nat) (v : Value) (len m : Nat) (w w' : World) : Prop := w.grownBy w' (some b) ∧ ∃ k, k ≤ m ∧ Src b v len k w'
theorem LG.keep {b : Nat} {v : Value} {len m : Nat} {w w1 w2 : World} (h : LG b v len m w w1) (hb : Below w1.heap.size w1 w2) : LG b v len m w w2 := ⟨grown_trans h.1 (grown_below hb (some b)), h.2.choose, h.2.choose_spec.1, src_grown h.2.choose_spec.2 (grown_below hb none)⟩
theorem LG.drew {b : Nat} {v : Value} {len m : Nat} {w w1 : World} (h : LG b v len m w w1) : LG b v len m w w1.drew := ⟨grown_trans h.1 (grown_drew1 _ _), h.2⟩
def LinePost (b : Nat) (v : Value) (len n : Nat) (w : World) (e : Ending) (w' : World) : Prop := ∃ s : ByteArray, e = .returned (.string s) ∧ s.size ≤ 200 ∧ LG b v len (n + 30) w w'
def Four (B : Nat) (y d h s : Int) (b : Nat) (v : Value) (len n : Nat) (w w' : World) : Prop := w'.cell? ⟨B, 0, none⟩ = some (.int .i64 y) ∧ w'.cell? ⟨B, 2, none⟩ = some (.int .i64 d) ∧ w'.cell? ⟨B, 3, none⟩ = some (.int .i64 h) ∧ w'.cell? ⟨B, 5, none⟩ = some (.int .i64 s) ∧ LG b v len n w w'
theorem four_keep {w w1 w2 : World} {B b : Nat} {v : Value} {len n : Nat} {y d h s : Int} (hS : w1.cell? ⟨B, 0, none⟩ = some (.int .i64 y) ∧ w1.cell? ⟨B, 2, none⟩ = some (.int .i64 d) ∧ w1.cell? ⟨B, 3, none⟩ = some (.int .i64 h) ∧ w1.cell? ⟨B, 5, none⟩ = some (.int .i64 s) ∧ LG b v len n w w1) (hb : Below w1.heap.size w1 w2) :
    w2.cell? ⟨B, 0, none⟩ = some (.int .i64 y) ∧ w2.cell? ⟨B, 2, none⟩ = some (.int .i64 d) ∧ w2.cell? ⟨B, 3, none⟩ = some (.int .i64 h) ∧ w2.cell? ⟨B, 5, none⟩ = some (.int .i64 s) ∧ LG b v len n w w2 :=
  ⟨cell_kept hb hS.1, cell_kept hb hS.2.1, cell_kept hb hS.2.2.1, cell_kept hb hS.2.2.2.1, hS.2.2.2.2.keep hb⟩
theorem four_drew {w w1 : World} {B b : Nat} {v : Value} {len n : Nat} {y d h s : Int} (hS : w1.cell? ⟨B, 0, none⟩ = some (.int .i64 y) ∧ w1.cell? ⟨B, 2, none⟩ = some (.int .i64 d) ∧ w1.cell? ⟨B, 3, none⟩ = some (.int .i64 h) ∧ w1.cell? ⟨B, 5, none⟩ = some (.int .i64 s) ∧ LG b v len n w w1) :
    w1.drew.cell? ⟨B, 0, none⟩ = some (.int .i64 y) ∧ w1.drew.cell? ⟨B, 2, none⟩ = some (.int .i64 d) ∧ w1.drew.cell? ⟨B, 3, none⟩ = some (.int .i64 h) ∧ w1.drew.cell? ⟨B, 5, none⟩ = some (.int .i64 s) ∧ LG b v len n w w1.drew :=
  ⟨hS.1, hS.2.1, hS.2.2.1, hS.2.2.2.1, hS.2.2.2.2.drew⟩
set_option maxHeartbeats 2000000 in
set_option maxRecDepth 100000 in
theorem dateLine_any (b : Nat) (v : Value) (len n : Nat) (w : World) (hn : n < 700000) (h : Src b v len n w) (hb : b < w.heap.size) : Calls Tryz.prog 293 #[.pointer (some ⟨b, 0, none⟩)] w (LinePost b v len n w) := by
  have HS := Lib.hid h
  clear h
  go_enter Tryz.func293, Tryz.ntmps293
  go_wp2_with fail
  refine (chance_any b v len n _ 3 (by omega) (by omega) (by omega) HS.out).mono ?_
  rintro e w1 ⟨r, rfl, hsrc, hg⟩
  have HX1 := Lib.hid hsrc
  have HG1 := Lib.hid hg
  have hz1 := hg.size
  clear hsrc hg
  cases r with
  | true =>
    have hb1 : b < w1.heap.size := by omega
    go_wp2_with fail
    refine (pick_new b v len _ w1 lineTexts _ _ _ rfl rfl (by decide) (by decide) (by omega) HX1.out hb1).mono ?_
    rintro e w2 ⟨s, hs, rfl, hsrc, hg⟩
    have HG2 := Lib.hid (show LG b v len (n + 30) w w2 from ⟨grown_trans HG1.out hg, _, by omega, hsrc⟩)
    have hsz := line_sizes s hs
    clear hsrc hg hs
    go_wp2_with fail
    go_ret
    exact ⟨s, rfl, by omega, HG2.out⟩
  | false =>
    go_wp2_with fail
    refine (anyDate_any b v len _ _ (by omega) HX1.out (by omega)).mono ?_
    rintro e w2 ⟨y, m, d, h, q, s, ⟨hy0, hy1⟩, ⟨hd0, hd1⟩, ⟨hh0, hh1⟩, ⟨hs0, hs1⟩, rfl, ⟨k, hk, hsrc⟩, hg⟩
    have HG2 := Lib.hid (grown_trans HG1.out hg)
    have hz2 := hg.size
    have HX2 := Lib.hid (src_grown hsrc (World.grownBy_alloc w2 (.cells #[.int .i64 y, .int .i64 m, .int .i64 d, .int .i64 h, .int .i64 q, .int .i64 s] 158) none))
    have HB2 := Lib.hid (Blk.new w2 y m d h q s)
    have HG2' := Lib.hid (grown_trans HG2.out (World.grownBy_alloc w2 (.cells #[.int .i64 y, .int .i64 m, .int .i64 d, .int .i64 h, .int .i64 q, .int .i64 s] 158) (some b)))
    clear hsrc hg
    cases hok : okB ⟨y, m, d, h, q, s⟩ with
    | false =>
      have HOK := Lib.hid hok
      clear hok
      have n0 := digS_size (n := d) (by omega) (by omega)
      have n1 := digS_size (n := y) (by omega) (by omega)
      have n2 := digS_size (n := h) (by omega) (by omega)
      have n3 := digS_size (n := s) (by omega) (by omega)
      have a1 := add_text (digS d) (⟨#[32, 109, 97, 121, 32]⟩) (by show _ + _ ≤ _; first | omega | (show _ + 5 ≤ _; omega))
      obtain ⟨T1, hT1⟩ : ∃ T, digS d ++ ⟨#[32, 109, 97, 121, 32]⟩ = T := ⟨_, rfl⟩
      have z1 : T1.size ≤ 10 := by rw [← hT1, ByteArray.size_append]; first | omega | (show _ + 5 ≤ _; omega)
      rw [hT1] at a1
      have a2 := add_text (T1) (digS y) (by show _ + _ ≤ _; first | omega | (show _ + 5 ≤ _; omega))
      obtain ⟨T2, hT2⟩ : ∃ T, T1 ++ digS y = T := ⟨_, rfl⟩
      have z2 : T2.size ≤ 15 := by rw [← hT2, ByteArray.size_append]; first | omega | (show _ + 5 ≤ _; omega)
      rw [hT2] at a2
      have a3 := add_text (T2) (⟨#[32]⟩) (by show _ + _ ≤ _; first | omega | (show _ + 1 ≤ _; omega))
      obtain ⟨T3, hT3⟩ : ∃ T, T2 ++ ⟨#[32]⟩ = T := ⟨_, rfl⟩
      have z3 : T3.size ≤ 16 := by rw [← hT3, ByteArray.size_append]; first | omega | (show _ + 1 ≤ _; omega)
      rw [hT3] at a3
      have a4 := add_text (T3) (digS h) (by show _ + _ ≤ _; first | omega | (show _ + 5 ≤ _; omega))
      obtain ⟨T4, hT4⟩ : ∃ T, T3 ++ digS h = T := ⟨_, rfl⟩
      have z4 : T4.size ≤ 21 := by rw [← hT4, ByteArray.size_append]; first | omega | (show _ + 5 ≤ _; omega)
      rw [hT4] at a4
      have a5 := add_text (T4) (⟨#[58, 49, 58]⟩) (by show _ + _ ≤ _; first | omega | (show _ + 3 ≤ _; omega))
      obtain ⟨T5, hT5⟩ : ∃ T, T4 ++ ⟨#[58, 49, 58]⟩ = T := ⟨_, rfl⟩
      have z5 : T5.size ≤ 24 := by rw [← hT5, ByteArray.size_append]; first | omega | (show _ + 3 ≤ _; omega)
      rw [hT5] at a5
      have a6 := add_text (T5) (digS s) (by show _ + _ ≤ _; first | omega | (show _ + 5 ≤ _; omega))
      obtain ⟨T6, hT6⟩ : ∃ T, T5 ++ digS s = T := ⟨_, rfl⟩
      have z6 : T6.size ≤ 29 := by rw [← hT6, ByteArray.size_append]; first | omega | (show _ + 5 ≤ _; omega)
      rw [hT6] at a6
      clear hT1 hT2 hT3 hT4 hT5 hT6 n0 n1 n2 n3 z1 z2 z3 z4 z5
      have d1 : -1 ≤ d := by omega
      have d2 : d ≤ 10000 := by omega
      have y1 : -1 ≤ y := by omega
      have y2 : y ≤ 10000 := by omega
      have h2 : h ≤ 10000 := by omega
      have s2 : s ≤ 10000 := by omega
      clear hd0 hd1 hy0 hy1 hh1 hs1
      go_wp2_with fail
      refine (specOK y m d h q s _).mono ?_
      rintro e w3 ⟨rfl, hb3⟩
      rw [HOK.out]
      obtain ⟨x0, x1, x2, x3, x4, x5⟩ := Blk.at (blk_stays HB2.out hb3)
      have hLG3 : LG b v len (n + 30) w w3 := ⟨grown_trans HG2'.out (grown_below hb3 (some b)), k, by omega, src_grown HX2.out (grown_below hb3 none)⟩
      have hS2 := four_drew (w := w) (b := b) ⟨x0, x2, x3, x5, hLG3⟩
      have hS3 := four_keep (w := w) (w1 := w3) (b := b) ⟨x0, x2, x3, x5, hLG3⟩ (Below.refl _ _)
      clear hb3 hLG3 x0 x1 x2 x3 x4 x5
      go_wp2_with fail
      go_region_held3 (fun w' => w'.cell? ⟨w2.heap.size, 0, none⟩ = some (.int .i64 y) ∧ w'.cell? ⟨w2.heap.size, 2, none⟩ = some (.int .i64 d) ∧ w'.cell? ⟨w2.heap.size, 3, none⟩ = some (.int .i64 h) ∧ w'.cell? ⟨w2.heap.size, 5, none⟩ = some (.int .i64 s) ∧ LG b v len (n + 30) w w') (first | assumption)
        (first | (go_at_call 163; refine (digS_any _ _ (by assumption) (by assumption)).mono ?_; rintro e w' ⟨rfl, hb⟩; have hS := four_keep (by assumption) hb; clear hb))
      have HS5 := Lib.hid hS
      go_wp2_with fail
      go_ret
      exact ⟨_, rfl, by omega, HS5.out.2.2.2.2⟩
    | true =>
      have HOK := Lib.hid hok
      obtain ⟨⟨hy1', hy2⟩, ⟨hm1, hm2⟩, _⟩ := (ok_iff _).1 hok
      simp only at hy1' hy2 hm1 hm2
      obtain ⟨kk, hk', hk7⟩ := week_nat ⟨y, m, d, h, q, s⟩
      obtain ⟨mm, rfl⟩ : ∃ mm : Nat, m = mm := ⟨m.toNat, by omega⟩
      have HT := Lib.hid fun W : World => specTextL y d h q s W kk mm _ _ rfl rfl _ rfl (year_size (by omega) hy2) hok hk'
      have hts := txt_size (y := y) (d := d) (h := h) (n := q) (s := s) (dnam_size hk7) (mnam_size (k := mm) (by omega) (by omega)) (year_size (by omega) hy2)
      obtain ⟨t, ht⟩ : ∃ t : ByteArray, (⟨(txtL (dnam kk).data.toList (mnam mm).data.toList y d h q s).toArray⟩ : ByteArray) = t := ⟨_, rfl⟩
      rw [ht] at hts
      obtain ⟨ht1, ht2⟩ := hts
      have HTE := Lib.hid ht
      clear hok hk' ht
      go_wp2_with fail
      refine (specOK y mm d h q s _).mono ?_
      rintro e w3 ⟨rfl, hb3⟩
      rw [HOK.out]
      have HX3 := Lib.hid (src_grown HX2.out (grown_below hb3 none))
      have HG3 := Lib.hid (grown_trans HG2'.out (grown_below hb3 (some b)))
      obtain ⟨x0, x1, x2, x3, x4, x5⟩ := Blk.at (blk_stays HB2.out hb3)
      clear hb3
      go_wp2_with fail
      refine (HT.out _).mono ?_
      rintro e w4 ⟨rfl, hb4⟩
      rw [HTE.out]
      have HX4 := Lib.hid (src_grown HX3.out (grown_below hb4 none))
      have HG4 := Lib.hid (grown_trans HG3.out (grown_below hb4 (some b)))
      clear hb4 x0 x1 x2 x3 x4 x5
      go_wp2_with fail
      refine (chance_any b v len _ _ 4 (by omega) (by omega) (by omega) HX4.out).mono ?_
      rintro e w5 ⟨r, rfl, hsrc, hg⟩
      have HX5 := Lib.hid hsrc
      have HG5 := Lib.hid (grown_trans HG4.out hg)
      clear hsrc hg
      cases r with
      | false =>
        go_wp2_with fail
        go_ret
        exact ⟨t, rfl, by omega, HG5.out, _, by omega, HX5.out⟩
      | true =>
        go_wp2_with fail
        refine (next_small b v len _ _ (t.size + 1) (by omega) (by omega) (by omega) HX5.out).mono ?_
        rintro e w6 ⟨c, rfl, hc, hsrc, hg⟩
        have HX6 := Lib.hid hsrc
        have HG6 := Lib.hid (grown_trans HG5.out hg)
        clear hsrc hg
        have hb6 : b < w6.heap.size := Src.lt HX6.out
        have hk1 : (0 : Int) ≤ c := by omega
        have hk2 : (c : Int) ≤ t.size := by omega
        have hk3 : c ≤ t.size := by omega
        go_wp2_with fail
        go_region_held3 (fun _ => True) (trivial)
          (first | (go_at_call 183; refine (pick_new b v len _ w6.drew cutTexts _ _ _ rfl rfl (by decide) (by decide) (by omega) HX6.out hb6).mono ?_; rintro e w7 ⟨m, hm, rfl, hsrc7, hg7⟩; have hm1 := cut_sizes m hm; have ha1 := string_add (t.extract 0 c) m (by simp; omega); have ha2 := string_add (t.extract 0 c ++ m) (t.extract c t.size) (by simp; omega); have HG7 := Lib.hid hg7; have HX7 := Lib.hid hsrc7; clear hsrc7 hg7 hm))
        go_wp2_with fail
        go_ret
        refine ⟨_, rfl, ?_, grown_trans HG6.out (grown_trans (grown_drew1 _ _) HG7.out), _, ?_, HX7.out⟩
        · simp only [ByteArray.size_append, ByteArray.size_extract]
          omega
        · omega
end Go.Proofs.YtpdonghdnaehhaaGreatDoor
