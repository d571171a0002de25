/- ReadDate of the program: what it answers. -/
import Derived.Test.YtpdonghdnaehhaaGreatDoorZTake
import Derived.Test.YtpdonghdnaehhaaGreatDoorZTokens
import Derived.Test.YtpdonghdnaehhaaGreatDoorZGe
namespace Go.Proofs.YtpdonghdnaehhaaGreatDoor
open Go.ChangeShapes Go.WideShapes Go.ChangeAt Go.WideMaps Go.WideElems Go.RowKit

def rd0 : Rd := ⟨none, none, 0, none⟩
def readK (l : List UInt8) (k : Nat) : Rd := ((tokL l).take k).foldl stepR rd0
def readL (l : List UInt8) : Rd := (tokL l).foldl stepR rd0
/-- The date that the parts found are, if they are one. -/
def dateR (r : Rd) : Option Dt :=
  match r.t, r.d, r.y with
  | some x, some d, some y => if okB ⟨fullY y, r.m, d, x.1, x.2.1, x.2.2⟩ then some ⟨fullY y, r.m, d, x.1, x.2.1, x.2.2⟩ else none
  | _, _, _ => none
def zeroD : Dt := ⟨0, 0, 0, 0, 0, 0⟩
/-- What ReadDate answers. -/
def rdA (s : ByteArray) : Dt := if s.size ≤ 65536 then (dateR (readL s.data.toList)).getD zeroD else zeroD
def rdC (s : ByteArray) : Int := if s.size ≤ 65536 then (if (dateR (readL s.data.toList)).isSome then 0 else 10) else 2
def ReadPost (w : World) (s : ByteArray) (e : Ending) (w' : World) : Prop :=
  e = .returned (.tuple #[.agg #[.int .i64 (rdA s).y, .int .i64 (rdA s).m, .int .i64 (rdA s).d, .int .i64 (rdA s).h, .int .i64 (rdA s).n, .int .i64 (rdA s).s], .int .i64 (rdC s)]) ∧ Below w.heap.size w w'
theorem read_long {w w' : World} {s : ByteArray} (h : ¬ s.size ≤ 65536) (hb : Below w.heap.size w w') : ReadPost w s (.returned (.tuple #[.agg #[.int .i64 0, .int .i64 0, .int .i64 0, .int .i64 0, .int .i64 0, .int .i64 0], .int .i64 2])) w' := by
  refine ⟨?_, hb⟩
  simp [rdA, rdC, h, zeroD]
theorem read_no {w w' : World} {s : ByteArray} (h : s.size ≤ 65536) (hn : dateR (readL s.data.toList) = none) (hb : Below w.heap.size w w') : ReadPost w s (.returned (.tuple #[.agg #[.int .i64 0, .int .i64 0, .int .i64 0, .int .i64 0, .int .i64 0, .int .i64 0], .int .i64 10])) w' := by
  refine ⟨?_, hb⟩
  simp [rdA, rdC, h, hn, zeroD]
theorem read_yes {w w' : World} {s : ByteArray} {y m d hh n q : Int} (h : s.size ≤ 65536) (hn : dateR (readL s.data.toList) = some ⟨y, m, d, hh, n, q⟩) (hb : Below w.heap.size w w') : ReadPost w s (.returned (.tuple #[.agg #[.int .i64 y, .int .i64 m, .int .i64 d, .int .i64 hh, .int .i64 n, .int .i64 q], .int .i64 0])) w' := by
  refine ⟨?_, hb⟩
  simp [rdA, rdC, h, hn]
theorem readK_next {l : List UInt8} {k : Nat} (hk : k < (tokL l).length) : readK l (k + 1) = stepR (readK l k) (tokL l)[k] := by
  unfold readK
  rw [List.take_succ_eq_append_getElem hk, List.foldl_append]
  rfl
theorem readK_all {l : List UInt8} : readK l (tokL l).length = readL l := by
  unfold readK readL
  rw [List.take_of_length_le (Nat.le_refl _)]
/-- The loop: k tokens are taken. -/
def ReadRel (w : World) (B g : Nat) (s : ByteArray) (v : Value) (wr : World) : Prop :=
  ∃ k : Nat, k ≤ (tokL s.data.toList).length ∧ v = .int .i64 k ∧ PR wr B (readK s.data.toList k) ∧ Blk wr w.heap.size 0 0 0 0 0 0 ∧ (∀ j (hj : j < (tokL s.data.toList).length), wr.cell? ⟨g, j, none⟩ = some (strV (tokL s.data.toList)[j])) ∧ Below w.heap.size w wr
theorem Blk.grown {w w' : World} {B C : Nat} {y m d h n s : Int} (hb : Blk w B y m d h n s) (hg : w.grownBy w' (some C)) (hne : B ≠ C) : Blk w' B y m d h n s := (hg.block B hb.lt (by simpa using hne)).trans hb
theorem read_step {w wr w' : World} {B g k : Nat} {s : ByteArray} (hk : k < (tokL s.data.toList).length) (hp : TakePost wr B (stepR (readK s.data.toList k) (tokL s.data.toList)[k]) w') (hres : Blk wr w.heap.size 0 0 0 0 0 0) (hc : ∀ j (hj : j < (tokL s.data.toList).length), wr.cell? ⟨g, j, none⟩ = some (strV (tokL s.data.toList)[j])) (hb : Below w.heap.size w wr)
    (h1 : w.heap.size < B) (h2 : g ≠ B) (h3 : g < wr.heap.size) : ReadRel w B g s (.int .i64 ((k : Int) + 1)) w' := by
  obtain ⟨hpr, hg⟩ := hp
  refine ⟨k + 1, hk, by go_num, by rw [readK_next hk]; exact hpr, hres.grown hg (by omega), fun j hj => ?_, hb.grown hg hb.size (fun k hk => by cases hk; omega)⟩
  exact (World.cell?_of_block (a := ⟨g, j, none⟩) (hg.block g h3 (by simpa using h2))).trans (hc j hj)
def allR (r : Rd) : Bool := r.t.isSome && r.d.isSome && decide (0 < r.m) && r.y.isSome
theorem fnd_full : ∀ a b c d : Bool, (fnd a b c d != 15) = !(a && b && c && d) := by decide
theorem date_part {r : Rd} (h : allR r = false) : dateR r = none := by
  obtain ⟨t, d, m, y⟩ := r
  unfold dateR
  cases t with
  | none => rfl
  | some x =>
    cases d with
    | none => rfl
    | some d =>
      cases y with
      | none => rfl
      | some y =>
        have hm : m = 0 := by
          simp [allR] at h
          exact h
        subst hm
        show (if okB _ = true then _ else none) = none
        rw [if_neg]
        intro hh
        have := (ok_iff _).1 hh
        simp at this
theorem date_full {r : Rd} (h : allR r = true) : ∃ x d y, r.t = some x ∧ r.d = some d ∧ r.y = some y ∧ 0 < r.m := by
  obtain ⟨t, d, m, y⟩ := r
  simp only [allR, Bool.and_eq_true, decide_eq_true_eq] at h
  obtain ⟨⟨⟨h1, h2⟩, h3⟩, h4⟩ := h
  obtain ⟨x, hx⟩ := Option.isSome_iff_exists.1 h1
  obtain ⟨dd, hd⟩ := Option.isSome_iff_exists.1 h2
  obtain ⟨yy, hy⟩ := Option.isSome_iff_exists.1 h4
  exact ⟨x, dd, yy, hx, hd, hy, h3⟩
set_option maxHeartbeats 1000000 in
set_option maxRecDepth 100000 in
theorem implRead (s : ByteArray) (w : World) (hs : s.size ≤ maxLen) (hT : TabAt w) (hM : MonthsAt w) (hX : MaxIs w) : Calls Tryz.prog 170 #[.string s] w (ReadPost w s) := by
  have HT := Lib.hid hT
  have HMo := Lib.hid hM
  have HX := Lib.hid hX
  have HS := Lib.hid hs
  clear hT hM hX hs
  go_enter Tryz.func170, Tryz.ntmps170
  go_wp2_with fail
  refine (implTokens s _ HS.out).mono ?_
  rintro e w1 ⟨v, rfl, hr, hb⟩
  have hres : Blk w1 w.heap.size 0 0 0 0 0 0 := (hb.block w.heap.size (by simp)).trans (Blk.new w 0 0 0 0 0 0)
  have HB1 := Lib.hid (((Below.refl w.heap.size w).alloc (Nat.le_refl _) _).trans (hb.mono (by simp)))
  have HR := Lib.hid hr
  have HRES := Lib.hid hres
  by_cases hl : s.size ≤ 65536
  · have e1 : tokV s = tokL s.data.toList := if_pos hl
    have e2 : tokC s = 0 := if_pos hl
    rw [e1] at HR
    rw [e2]
    clear e1 e2 hr hb hres
    obtain ⟨a, cap, rfl, hrow⟩ := HR.out
    obtain ⟨g, hga⟩ : ∃ g, 0 < (tokL s.data.toList).length → a = some ⟨g, 0, none⟩ ∧ g < w1.heap.size := by
      rcases Nat.eq_zero_or_pos (tokL s.data.toList).length with h0 | h0
      · exact ⟨0, fun h => by omega⟩
      · obtain ⟨g, h1, _, h2, _⟩ := hrow h0
        exact ⟨g, fun _ => ⟨h1, h2⟩⟩
    have hcell : ∀ j (hj : j < (tokL s.data.toList).length), w1.cell? ⟨g, j, none⟩ = some (strV (tokL s.data.toList)[j]) := by
      intro j hj
      obtain ⟨g', h1, _, _, _, h3⟩ := hrow (by omega)
      obtain ⟨h4, _⟩ := hga (by omega)
      rw [h1] at h4
      simp only [Option.some.injEq, Addr.mk.injEq, and_true] at h4
      subst h4
      exact h3 j hj
    have HCELL := Lib.hid hcell
    have HGA := Lib.hid hga
    have hB0 : w.heap.size < w1.heap.size := HRES.out.lt
    have htsz : ∀ j (hj : j < (tokL s.data.toList).length), (tokL s.data.toList)[j].length ≤ 65536 := by
      intro j hj
      have := tok_size s.data.toList [] _ (List.getElem_mem hj)
      simp at this
      omega
    have HTS := Lib.hid htsz
    clear hrow hcell hga htsz
    have hlen : (tokL s.data.toList).length ≤ 65536 := by
      have := tokL_len s.data.toList
      simp at this
      omega
    have HB1A := Lib.hid (HB1.out.alloc HB1.out.size (.cells #[.int .i64 0, .int .i64 0, .int .i64 0, .int .i64 0, .int .i64 0, .int .i64 0, .int .i64 0] 218))
    have HPA : Hid (PR (w1.alloc (.cells #[.int .i64 0, .int .i64 0, .int .i64 0, .int .i64 0, .int .i64 0, .int .i64 0, .int .i64 0] 218)) w1.heap.size (readK s.data.toList 0)) := Lib.hid (heap_alloc_new w1 _)
    go_wp2_with fail
    go_loopw [20] (fun v wr => ReadRel w w1.heap.size g s v wr) (fun v _ => (tokL s.data.toList).length - (intOf v).toNat)
    case atStart =>
      refine ⟨0, Nat.zero_le _, rfl, HPA.out, HRES.out.alloc _, fun j hj => ?_, HB1A.out⟩
      obtain ⟨_, hg⟩ := HGA.out (by omega)
      exact (cell_kept ((Below.refl _ _).alloc (Nat.le_refl _) _) (HCELL.out j hj))
    case round =>
      clear HB1A HPA HRES
      obtain ⟨k, hk, rfl, hp, hres, hc, hb⟩ := hrel
      have HP := Lib.hid hp
      have HRES := Lib.hid hres
      have HC := Lib.hid hc
      have HB := Lib.hid hb
      clear hp hres hc hb
      by_cases hlt : k < (tokL s.data.toList).length
      · obtain ⟨rfl, hg⟩ := HGA.out (by omega)
        obtain ⟨U, hU⟩ : ∃ U : ByteArray, U = ⟨((tokL s.data.toList)[k]'hlt).toArray⟩ := ⟨_, rfl⟩
        have hUl : U.data.toList = (tokL s.data.toList)[k]'hlt := by rw [hU]
        have hUs : U.size ≤ 65536 := by
          have := HTS.out k hlt
          rw [← hUl] at this
          simpa using this
        have hck := HC.out k hlt
        rw [strV, ← hU] at hck
        have HUL := Lib.hid hUl
        have hgw : g < wr.heap.size := Nat.lt_of_lt_of_le hg (Nat.le_of_lt (PD.lt HP.out))
        have hkI : (k : Int) < ((tokL s.data.toList).length : Int) := by omega
        clear hU hUl
        go_wp2_with fail
        refine (take_any w1.heap.size (readK s.data.toList k) U _ HP.out hUs (HT.out.below HB.out) (HMo.out.below HB.out) (HX.out.below HB.out)).mono ?_
        rintro e w2 ⟨rfl, htp⟩
        rw [HUL.out] at htp
        have HN := Lib.hid (read_step (w := w) (g := g) hlt htp HRES.out HC.out HB.out hB0 (by omega) hgw)
        clear htp hck
        go_wp2_with fail
        go_roundw
        case rel => exact HN.out
        case measure => simp [intOf]; omega
      · obtain rfl : k = (tokL s.data.toList).length := by omega
        have hp := HP.out
        rw [readK_all] at hp
        have hres := HRES.out
        clear HP
        cases hall : allR (readL s.data.toList) with
        | false =>
          have HN := Lib.hid (date_part hall)
          unfold PR at hp
          obtain ⟨F, hF⟩ : ∃ F, fnd (readL s.data.toList).t.isSome (readL s.data.toList).d.isSome (decide (0 < (readL s.data.toList).m)) (readL s.data.toList).y.isSome = F := ⟨_, rfl⟩
          have hF15 : (F != 15) = true := by
            rw [← hF, fnd_full]
            unfold allR at hall
            rw [hall]
            rfl
          rw [hF] at hp
          have g6 := hp.at.2.2.2.2.2.2
          have f0 := hres.free 0
          have f1 := hres.free 1
          have f2 := hres.free 2
          have f3 := hres.free 3
          have f4 := hres.free 4
          have f5 := hres.free 5
          obtain ⟨r0, r1, r2, r3, r4, r5⟩ := hres.at
          clear hp hres hF hall
          go_wp2_with fail
          obtain ⟨q0, q1, q2, q3, q4, q5⟩ := (HRES.out.put 0 0 0 0 0 0).at
          refine bodyPost_ret (v := .tuple #[.agg #[.int .i64 0, .int .i64 0, .int .i64 0, .int .i64 0, .int .i64 0, .int .i64 0], .int .i64 10]) (by simp [results, Tryz.results170, go_sem, q0, q1, q2, q3, q4, q5]) rfl ?_
          exact read_no hl HN.out (Blk.putBelow HB.out (Nat.le_refl _) _ _ _ _ _ _)
        | true =>
          obtain ⟨x, d, y0, ht, hd, hy, hm⟩ := date_full hall
          unfold PR at hp
          rw [ht, hd, hy, decide_eq_true hm] at hp
          obtain ⟨h, n, q⟩ := x
          have hdate : dateR (readL s.data.toList) = if okB ⟨fullY y0, (readL s.data.toList).m, d, h, n, q⟩ then some ⟨fullY y0, (readL s.data.toList).m, d, h, n, q⟩ else none := by
            unfold dateR
            rw [ht, hd, hy]
          obtain ⟨y, hyy⟩ : ∃ y, fullY y0 = y := ⟨_, rfl⟩
          obtain ⟨m, hmm⟩ : ∃ m : Int, ((readL s.data.toList).m : Int) = m := ⟨_, rfl⟩
          rw [hyy, hmm] at hdate
          have hp2 : PD wr w1.heap.size y m d h n q 15 := by
            rw [← hyy, ← hmm]
            exact hp
          have HDATE := Lib.hid hdate
          obtain ⟨g0, g1, g2, g3, g4, g5, g6⟩ := hp2.at
          have HP2 := Lib.hid hp2
          clear hp hp2 ht hd hy hm hyy hmm hdate hall
          cases hok : okB ⟨y, m, d, h, n, q⟩ with
          | false =>
            have HO := Lib.hid hok
            clear hok hres
            go_wp2_with fail
            refine (implOK y m d h n q _).mono ?_
            rintro e w3 ⟨rfl, hb⟩
            rw [HO.out]
            have hres : Blk w3 w.heap.size 0 0 0 0 0 0 := (hb.block _ HRES.out.lt).trans HRES.out
            have HRES3 := Lib.hid hres
            have HB3 := Lib.hid (HB.out.trans (hb.mono HB.out.size))
            have f0 := hres.free 0
            have f1 := hres.free 1
            have f2 := hres.free 2
            have f3 := hres.free 3
            have f4 := hres.free 4
            have f5 := hres.free 5
            obtain ⟨r0, r1, r2, r3, r4, r5⟩ := hres.at
            clear hres hb
            go_wp2_with fail
            obtain ⟨q0, q1, q2, q3, q4, q5⟩ := (HRES3.out.put 0 0 0 0 0 0).at
            refine bodyPost_ret (v := .tuple #[.agg #[.int .i64 0, .int .i64 0, .int .i64 0, .int .i64 0, .int .i64 0, .int .i64 0], .int .i64 10]) (by simp [results, Tryz.results170, go_sem, q0, q1, q2, q3, q4, q5]) rfl ?_
            exact read_no hl (by rw [HDATE.out, HO.out]; rfl) (Blk.putBelow HB3.out (Nat.le_refl _) _ _ _ _ _ _)
          | true =>
            have HO := Lib.hid hok
            clear hok hres
            go_wp2_with fail
            refine (implOK y m d h n q _).mono ?_
            rintro e w3 ⟨rfl, hb⟩
            rw [HO.out]
            have hres : Blk w3 w.heap.size 0 0 0 0 0 0 := (hb.block _ HRES.out.lt).trans HRES.out
            have HRES3 := Lib.hid hres
            have HB3 := Lib.hid (HB.out.trans (hb.mono HB.out.size))
            have hp3 := PD.below HP2.out hb
            clear g0 g1 g2 g3 g4 g5 g6
            obtain ⟨g0, g1, g2, g3, g4, g5, g6⟩ := hp3.at
            have f0 := hres.free 0
            have f1 := hres.free 1
            have f2 := hres.free 2
            have f3 := hres.free 3
            have f4 := hres.free 4
            have f5 := hres.free 5
            obtain ⟨r0, r1, r2, r3, r4, r5⟩ := hres.at
            clear hres hb hp3
            go_wp2_with fail
            obtain ⟨q0, q1, q2, q3, q4, q5⟩ := (HRES3.out.put y m d h n q).at
            refine bodyPost_ret (v := .tuple #[.agg #[.int .i64 y, .int .i64 m, .int .i64 d, .int .i64 h, .int .i64 n, .int .i64 q], .int .i64 0]) (by simp [results, Tryz.results170, go_sem, q0, q1, q2, q3, q4, q5]) rfl ?_
            exact read_yes hl (by rw [HDATE.out, HO.out]; rfl) (Blk.putBelow HB3.out (Nat.le_refl _) _ _ _ _ _ _)
  · have e2 : tokC s = 2 := if_neg hl
    rw [e2]
    have f0 := hres.free 0
    have f1 := hres.free 1
    have f2 := hres.free 2
    have f3 := hres.free 3
    have f4 := hres.free 4
    have f5 := hres.free 5
    obtain ⟨r0, r1, r2, r3, r4, r5⟩ := hres.at
    clear e2 hr hb hres
    go_wp2_with fail
    obtain ⟨q0, q1, q2, q3, q4, q5⟩ := (HRES.out.put 0 0 0 0 0 0).at
    refine bodyPost_ret (v := .tuple #[.agg #[.int .i64 0, .int .i64 0, .int .i64 0, .int .i64 0, .int .i64 0, .int .i64 0], .int .i64 2]) (by simp [results, Tryz.results170, go_sem, q0, q1, q2, q3, q4, q5]) rfl ?_
    exact read_long hl (Blk.putBelow HB1.out (Nat.le_refl _) _ _ _ _ _ _)
end Go.Proofs.YtpdonghdnaehhaaGreatDoor
