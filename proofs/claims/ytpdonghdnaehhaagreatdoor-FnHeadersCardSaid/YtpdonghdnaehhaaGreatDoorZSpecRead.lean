/- ReadDate of the model: what it answers; the law's walk. -/
import Derived.Test.YtpdonghdnaehhaaGreatDoorZReadDate
namespace Go.Proofs.YtpdonghdnaehhaaGreatDoor
open Go.ChangeShapes Go.WideShapes Go.ChangeAt Go.WideMaps Go.WideElems Go.RowKit

/-- What the model holds of the parts read. -/
def RS (w : World) (B : Nat) (r : Rd) : Prop := Blk w B (r.y.getD 0) r.m (r.d.getD 0) (r.t.getD (0, 0, 0)).1 (r.t.getD (0, 0, 0)).2.1 (r.t.getD (0, 0, 0)).2.2
def Toks (w : World) (g : Nat) (s : ByteArray) : Prop := ∀ j (hj : j < (tokL s.data.toList).length), w.cell? ⟨g, j, none⟩ = some (strV (tokL s.data.toList)[j])
theorem Toks.below {w w' : World} {g : Nat} {s : ByteArray} (h : Toks w g s) (hb : Below w.heap.size w w') : Toks w' g s := fun j hj => cell_kept hb (h j hj)
theorem Toks.set {w : World} {g B i : Nat} {s : ByteArray} {v : Value} (h : Toks w g s) (hne : g ≠ B) : Toks (w.setCell ⟨B, i, none⟩ v) g s := fun j hj => (World.cell?_setCell_far _ _ _ _ (by simpa using Ne.symm hne)).trans (h j hj)
theorem Blk.below {w w' : World} {B : Nat} {y m d h n s : Int} (hp : Blk w B y m d h n s) (hb : Below w.heap.size w w') : Blk w' B y m d h n s := (hb.block B hp.lt).trans hp
def SRel (w : World) (g : Nat) (s : ByteArray) (tv dv yv iv : Value) (wr : World) : Prop :=
  ∃ (k : Nat) (T D Y : Bool), k ≤ (tokL s.data.toList).length ∧ iv = .int .i64 k ∧ tv = .bool T ∧ dv = .bool D ∧ yv = .bool Y ∧
    (readK s.data.toList k).t.isSome = T ∧ (readK s.data.toList k).d.isSome = D ∧ (readK s.data.toList k).y.isSome = Y ∧
    RS wr (w.heap.size + 1) (readK s.data.toList k) ∧ Blk wr w.heap.size 0 0 0 0 0 0 ∧ Toks wr g s ∧ Below w.heap.size w wr
theorem zero_eq (m : Nat) : ((m : Int) == 0) = !decide (0 < m) := by
  rw [Bool.eq_iff_iff]
  simp
/-- All that the round knows ahead: the parts as they were, and what the token may be. -/
def Know (r : Rd) (U : ByteArray) (T D M Y C A b2 b4 : Bool) : Prop := r.t.isSome = T ∧ r.d.isSome = D ∧ decide (0 < r.m) = M ∧ r.y.isSome = Y ∧ decide (0 < monB U) = C ∧ tmB U = A ∧ ldB 1 2 U = b2 ∧ ldB 2 4 U = b4
theorem s_none {w wr : World} {g k : Nat} {s U : ByteArray} {T D M Y C A b2 b4 : Bool} (hk : k < (tokL s.data.toList).length) (hU : U.data.toList = (tokL s.data.toList)[k]) (H : Know (readK s.data.toList k) U T D M Y C A b2 b4)
    (q1 : (!T && A) = false) (q2 : (!D && b2) = false) (q3 : (!M && C) = false) (q4 : (!Y && b4) = false)
    (hr : RS wr (w.heap.size + 1) (readK s.data.toList k)) (hz : Blk wr w.heap.size 0 0 0 0 0 0) (ht : Toks wr g s) (hb : Below w.heap.size w wr) :
    SRel w g s (.bool T) (.bool D) (.bool Y) (.int .i64 ((k : Int) + 1)) wr := by
  obtain ⟨hT, hD, hM, hY, hC, hA, h2, h4⟩ := H
  have hs := step_eq hT hD hM hY hC hA h2 h4
  rw [q1, if_neg (by simp), q2, if_neg (by simp), q3, if_neg (by simp), q4, if_neg (by simp), hU, ← readK_next hk] at hs
  exact ⟨k + 1, T, D, Y, hk, by go_num, rfl, rfl, rfl, by rw [hs]; exact hT, by rw [hs]; exact hD, by rw [hs]; exact hY, by rw [hs]; exact hr, hz, ht, hb⟩
theorem s_time {w wr : World} {g k : Nat} {s U : ByteArray} {T D M Y C A b2 b4 : Bool} {a b c : Int} (hk : k < (tokL s.data.toList).length) (hU : U.data.toList = (tokL s.data.toList)[k]) (H : Know (readK s.data.toList k) U T D M Y C A b2 b4)
    (q1 : (!T && A) = true) (hv : ∀ x, timeL U.data.toList = some x → x = (a, b, c)) (hg : g ≠ w.heap.size + 1)
    (hr : RS wr (w.heap.size + 1) (readK s.data.toList k)) (hz : Blk wr w.heap.size 0 0 0 0 0 0) (ht : Toks wr g s) (hb : Below w.heap.size w wr) :
    SRel w g s (.bool true) (.bool D) (.bool Y) (.int .i64 ((k : Int) + 1)) (((wr.setCell ⟨w.heap.size + 1, 3, none⟩ (.int .i64 a)).setCell ⟨w.heap.size + 1, 4, none⟩ (.int .i64 b)).setCell ⟨w.heap.size + 1, 5, none⟩ (.int .i64 c)) := by
  obtain ⟨hT, hD, hM, hY, hC, hA, h2, h4⟩ := H
  have hs := step_eq hT hD hM hY hC hA h2 h4
  rw [if_pos q1, hU, ← readK_next hk] at hs
  have hAt : A = true := by cases A <;> simp_all
  obtain ⟨x, hx⟩ := Option.isSome_iff_exists.1 (hA.trans hAt)
  obtain rfl := hv x hx
  rw [hU] at hx
  have hle : w.heap.size ≤ w.heap.size + 1 := Nat.le_succ _
  refine ⟨k + 1, true, D, Y, hk, by go_num, rfl, rfl, rfl, by rw [hs]; show (timeL _).isSome = true; rw [hx]; rfl, by rw [hs]; exact hD, by rw [hs]; exact hY, ?_, ((hz.other (by omega)).other (by omega)).other (by omega), ((ht.set hg).set hg).set hg, ((hb.setCell hle _).setCell hle _).setCell hle _⟩
  rw [hs]
  unfold RS
  simp only [hx, Option.getD_some]
  exact ((Blk.hour hr a).minute b).second c
theorem s_day {w wr : World} {g k : Nat} {s U : ByteArray} {T D M Y C A b2 b4 : Bool} {n : Int} (hk : k < (tokL s.data.toList).length) (hU : U.data.toList = (tokL s.data.toList)[k]) (H : Know (readK s.data.toList k) U T D M Y C A b2 b4)
    (q1 : (!T && A) = false) (q2 : (!D && b2) = true) (hv : b2 = true → n = ldN 1 2 U) (hg : g ≠ w.heap.size + 1)
    (hr : RS wr (w.heap.size + 1) (readK s.data.toList k)) (hz : Blk wr w.heap.size 0 0 0 0 0 0) (ht : Toks wr g s) (hb : Below w.heap.size w wr) :
    SRel w g s (.bool T) (.bool true) (.bool Y) (.int .i64 ((k : Int) + 1)) (wr.setCell ⟨w.heap.size + 1, 2, none⟩ (.int .i64 n)) := by
  obtain ⟨hT, hD, hM, hY, hC, hA, h2, h4⟩ := H
  have hs := step_eq hT hD hM hY hC hA h2 h4
  rw [q1, if_neg (by simp), if_pos q2, hU, ← readK_next hk] at hs
  have hAt : b2 = true := by cases b2 <;> simp_all
  obtain rfl := hv hAt
  obtain ⟨x, hx⟩ := Option.isSome_iff_exists.1 (h2.trans hAt)
  have hd : dayL (tokL s.data.toList)[k] = some (ldN 1 2 U) := by rw [← hU, (ld_some (n := x.1) (r := x.2) hx).1, dayL, hx]; rfl
  have hle : w.heap.size ≤ w.heap.size + 1 := Nat.le_succ _
  refine ⟨k + 1, T, true, Y, hk, by go_num, rfl, rfl, rfl, by rw [hs]; exact hT, by rw [hs]; show (dayL _).isSome = true; rw [hd]; rfl, by rw [hs]; exact hY, ?_, hz.other (by omega), ht.set hg, hb.setCell hle _⟩
  rw [hs]
  unfold RS
  simp only [hd, Option.getD_some]
  exact Blk.day hr _
theorem s_month {w wr : World} {g k : Nat} {s U : ByteArray} {T D M Y C A b2 b4 : Bool} (hk : k < (tokL s.data.toList).length) (hU : U.data.toList = (tokL s.data.toList)[k]) (H : Know (readK s.data.toList k) U T D M Y C A b2 b4)
    (q1 : (!T && A) = false) (q2 : (!D && b2) = false) (q3 : (!M && C) = true) (hg : g ≠ w.heap.size + 1)
    (hr : RS wr (w.heap.size + 1) (readK s.data.toList k)) (hz : Blk wr w.heap.size 0 0 0 0 0 0) (ht : Toks wr g s) (hb : Below w.heap.size w wr) :
    SRel w g s (.bool T) (.bool D) (.bool Y) (.int .i64 ((k : Int) + 1)) (wr.setCell ⟨w.heap.size + 1, 1, none⟩ (.int .i64 (monB U))) := by
  obtain ⟨hT, hD, hM, hY, hC, hA, h2, h4⟩ := H
  have hs := step_eq hT hD hM hY hC hA h2 h4
  rw [q1, if_neg (by simp), q2, if_neg (by simp), if_pos q3, hU, ← readK_next hk] at hs
  have hle : w.heap.size ≤ w.heap.size + 1 := Nat.le_succ _
  refine ⟨k + 1, T, D, Y, hk, by go_num, rfl, rfl, rfl, by rw [hs]; exact hT, by rw [hs]; exact hD, by rw [hs]; exact hY, ?_, hz.other (by omega), ht.set hg, hb.setCell hle _⟩
  rw [hs]
  exact Blk.month hr _
theorem s_year {w wr : World} {g k : Nat} {s U : ByteArray} {T D M Y C A b2 b4 : Bool} {n : Int} (hk : k < (tokL s.data.toList).length) (hU : U.data.toList = (tokL s.data.toList)[k]) (H : Know (readK s.data.toList k) U T D M Y C A b2 b4)
    (q1 : (!T && A) = false) (q2 : (!D && b2) = false) (q3 : (!M && C) = false) (q4 : (!Y && b4) = true) (hv : b4 = true → n = ldN 2 4 U) (hg : g ≠ w.heap.size + 1)
    (hr : RS wr (w.heap.size + 1) (readK s.data.toList k)) (hz : Blk wr w.heap.size 0 0 0 0 0 0) (ht : Toks wr g s) (hb : Below w.heap.size w wr) :
    SRel w g s (.bool T) (.bool D) (.bool true) (.int .i64 ((k : Int) + 1)) (wr.setCell ⟨w.heap.size + 1, 0, none⟩ (.int .i64 n)) := by
  obtain ⟨hT, hD, hM, hY, hC, hA, h2, h4⟩ := H
  have hs := step_eq hT hD hM hY hC hA h2 h4
  rw [q1, if_neg (by simp), q2, if_neg (by simp), q3, if_neg (by simp), if_pos q4, hU, ← readK_next hk] at hs
  have hAt : b4 = true := by cases b4 <;> simp_all
  obtain rfl := hv hAt
  obtain ⟨x, hx⟩ := Option.isSome_iff_exists.1 (h4.trans hAt)
  have hd : yearL (tokL s.data.toList)[k] = some (ldN 2 4 U) := by rw [← hU, (ld_some (n := x.1) (r := x.2) hx).1, yearL, hx]; rfl
  have hle : w.heap.size ≤ w.heap.size + 1 := Nat.le_succ _
  refine ⟨k + 1, T, D, true, hk, by go_num, rfl, rfl, rfl, by rw [hs]; exact hT, by rw [hs]; exact hD, by rw [hs]; show (yearL _).isSome = true; rw [hd]; rfl, ?_, hz.other (by omega), ht.set hg, hb.setCell hle _⟩
  rw [hs]
  unfold RS
  simp only [hd, Option.getD_some]
  exact Blk.year hr _
theorem step_year {r : Rd} {l : List UInt8} (h : ∀ n, r.y = some n → 0 ≤ n ∧ n ≤ 9999) : ∀ n, (stepR r l).y = some n → 0 ≤ n ∧ n ≤ 9999 := by
  intro n hn
  unfold stepR at hn
  split at hn
  · exact h n hn
  · split at hn
    · exact h n hn
    · split at hn
      · exact h n hn
      · split at hn
        · have hy : yearL l = some n := hn
          unfold yearL at hy
          cases hl : leadL 2 4 l with
          | none => rw [hl] at hy; cases hy
          | some x =>
            rw [hl] at hy
            obtain ⟨m, q⟩ := x
            cases hy
            exact lead_num hl (by omega)
        · exact h n hn
theorem fold_year : ∀ (ls : List (List UInt8)) (r : Rd), (∀ n, r.y = some n → 0 ≤ n ∧ n ≤ 9999) → ∀ n, (ls.foldl stepR r).y = some n → 0 ≤ n ∧ n ≤ 9999
  | [], _, h => h
  | l :: ls, r, h => fold_year ls (stepR r l) (step_year h)
theorem read_year (l : List UInt8) : 0 ≤ (readL l).y.getD 0 ∧ (readL l).y.getD 0 ≤ 9999 := by
  have h := fold_year (tokL l) rd0 (fun n h => by cases h)
  cases hy : (readL l).y with
  | none => exact ⟨by decide, by decide⟩
  | some n => exact h n hy
theorem dateR_eq (r : Rd) : dateR r = if r.t.isSome && r.d.isSome && r.y.isSome then (if okB ⟨fullY (r.y.getD 0), r.m, r.d.getD 0, (r.t.getD (0, 0, 0)).1, (r.t.getD (0, 0, 0)).2.1, (r.t.getD (0, 0, 0)).2.2⟩ then some ⟨fullY (r.y.getD 0), r.m, r.d.getD 0, (r.t.getD (0, 0, 0)).1, (r.t.getD (0, 0, 0)).2.1, (r.t.getD (0, 0, 0)).2.2⟩ else none) else none := by
  obtain ⟨t, d, m, y⟩ := r
  cases t <;> cases d <;> cases y <;> rfl
def SReadPost (w : World) (s : ByteArray) (e : Ending) (w' : World) : Prop :=
  ∃ y m d h n q : Int, e = .returned (.tuple #[.agg #[.int .i64 y, .int .i64 m, .int .i64 d, .int .i64 h, .int .i64 n, .int .i64 q], .bool (dateR (readL s.data.toList)).isSome]) ∧ (∀ a, dateR (readL s.data.toList) = some a → a = ⟨y, m, d, h, n, q⟩) ∧ Below w.heap.size w w'
theorem below_drew_step {w w' : World} (hb : Below w.drew.heap.size w.drew w') : Below w.heap.size w w' := (Below.refl w.heap.size w).drew.trans hb
theorem sr_keep {w w1 w2 : World} {yF vm vd vh vn vs : Int} (hS : w1.cell? ⟨w.heap.size + 1, 0, none⟩ = some (.int .i64 yF) ∧ w1.cell? ⟨w.heap.size + 1, 1, none⟩ = some (.int .i64 vm) ∧ w1.cell? ⟨w.heap.size + 1, 2, none⟩ = some (.int .i64 vd) ∧ w1.cell? ⟨w.heap.size + 1, 3, none⟩ = some (.int .i64 vh) ∧ w1.cell? ⟨w.heap.size + 1, 4, none⟩ = some (.int .i64 vn) ∧ w1.cell? ⟨w.heap.size + 1, 5, none⟩ = some (.int .i64 vs) ∧ Blk w1 w.heap.size 0 0 0 0 0 0 ∧ Below w.heap.size w w1) (hb : Below w1.heap.size w1 w2) :
    w2.cell? ⟨w.heap.size + 1, 0, none⟩ = some (.int .i64 yF) ∧ w2.cell? ⟨w.heap.size + 1, 1, none⟩ = some (.int .i64 vm) ∧ w2.cell? ⟨w.heap.size + 1, 2, none⟩ = some (.int .i64 vd) ∧ w2.cell? ⟨w.heap.size + 1, 3, none⟩ = some (.int .i64 vh) ∧ w2.cell? ⟨w.heap.size + 1, 4, none⟩ = some (.int .i64 vn) ∧ w2.cell? ⟨w.heap.size + 1, 5, none⟩ = some (.int .i64 vs) ∧ Blk w2 w.heap.size 0 0 0 0 0 0 ∧ Below w.heap.size w w2 :=
  ⟨cell_kept hb hS.1, cell_kept hb hS.2.1, cell_kept hb hS.2.2.1, cell_kept hb hS.2.2.2.1, cell_kept hb hS.2.2.2.2.1, cell_kept hb hS.2.2.2.2.2.1, hS.2.2.2.2.2.2.1.below hb, hS.2.2.2.2.2.2.2.trans (hb.mono hS.2.2.2.2.2.2.2.size)⟩
theorem sread_no {w w' : World} {s : ByteArray} {y m d h n q : Int} (hn : dateR (readL s.data.toList) = none) (hb : Below w.heap.size w w') : SReadPost w s (.returned (.tuple #[.agg #[.int .i64 y, .int .i64 m, .int .i64 d, .int .i64 h, .int .i64 n, .int .i64 q], .bool false])) w' :=
  ⟨y, m, d, h, n, q, by rw [hn]; rfl, fun a ha => (by rw [hn] at ha; cases ha), hb⟩
theorem sread_ok {w w' : World} {s : ByteArray} {y m d h n q : Int} {b : Bool} (hn : dateR (readL s.data.toList) = if b then (if okB ⟨y, m, d, h, n, q⟩ then some ⟨y, m, d, h, n, q⟩ else none) else none) (hb : Below w.heap.size w w') : b = true → SReadPost w s (.returned (.tuple #[.agg #[.int .i64 y, .int .i64 m, .int .i64 d, .int .i64 h, .int .i64 n, .int .i64 q], .bool (okB ⟨y, m, d, h, n, q⟩)])) w' := by
  rintro rfl
  rw [if_pos rfl] at hn
  cases hok : okB ⟨y, m, d, h, n, q⟩ with
  | false => rw [hok, if_neg (by simp)] at hn; exact sread_no hn hb
  | true => rw [hok, if_pos rfl] at hn; exact ⟨y, m, d, h, n, q, by rw [hn]; rfl, fun a ha => (by rw [hn] at ha; cases ha; rfl), hb⟩
set_option maxHeartbeats 8000000 in
set_option maxRecDepth 100000 in
theorem specReadL (s : ByteArray) (w : World) (hs : s.size ≤ 65536) : Calls Tryz.prog 265 #[.string s] w (SReadPost w s) := by
  go_enter Tryz.func265, Tryz.ntmps265
  go_wp2_with fail
  refine (specTokL s _ (by omega)).mono ?_
  rintro e w1 ⟨v, rfl, ho, hb⟩
  have hr := row_of_own ho
  obtain ⟨a, cap, rfl, hrow⟩ := hr
  have hz1 : w.heap.size + 2 ≤ w1.heap.size := by have := hb.size; simp at this; omega
  obtain ⟨g, hga⟩ : ∃ g, 0 < (tokL s.data.toList).length → a = some ⟨g, 0, none⟩ ∧ g < w1.heap.size ∧ g ≠ w.heap.size + 1 := by
    rcases Nat.eq_zero_or_pos (tokL s.data.toList).length with h0 | h0
    · exact ⟨0, fun h => by omega⟩
    · obtain ⟨g, h1, h3, h2, _⟩ := hrow h0
      simp at h3
      exact ⟨g, fun _ => ⟨h1, h2, by omega⟩⟩
  have hcell : Toks w1 g s := by
    intro j hj
    obtain ⟨g', h1, _, _, _, h3⟩ := hrow (by omega)
    obtain ⟨h4, _⟩ := hga (by omega)
    rw [h1] at h4
    simp only [Option.some.injEq, Addr.mk.injEq, and_true] at h4
    subst h4
    exact h3 j hj
  have HCELL := Lib.hid hcell
  have HGA := Lib.hid hga
  have HB1 := Lib.hid ((((Below.refl w.heap.size w).alloc (Nat.le_refl _) _).alloc (by simp) _).trans (hb.mono (by simp; omega)))
  have HZ1 := Lib.hid (((Blk.new w 0 0 0 0 0 0).alloc _).below hb)
  have hd1 : Blk w1 (w.heap.size + 1) 0 0 0 0 0 0 := by
    have := (Blk.new (w.alloc (.cells #[.int .i64 0, .int .i64 0, .int .i64 0, .int .i64 0, .int .i64 0, .int .i64 0] 158)) 0 0 0 0 0 0).below hb
    simpa using this
  have HD1 := Lib.hid hd1
  have htsz : ∀ j (hj : j < (tokL s.data.toList).length), (tokL s.data.toList)[j].length ≤ 65536 := by
    intro j hj
    have := tok_size s.data.toList [] _ (List.getElem_mem hj)
    simp at this
    omega
  have HTS := Lib.hid htsz
  have hlen : (tokL s.data.toList).length ≤ 65536 := by
    have := tokL_len s.data.toList
    simp at this
    omega
  clear hrow ho hb hga hcell hd1 htsz
  go_wp2_with fail
  go_loopw [5, 6, 7, 9] (fun tv dv yv iv wr => SRel w g s tv dv yv iv wr) (fun _ _ _ iv _ => (tokL s.data.toList).length - (intOf iv).toNat)
  case atStart => exact ⟨0, false, false, false, Nat.zero_le _, rfl, rfl, rfl, rfl, rfl, rfl, rfl, HD1.out, HZ1.out, HCELL.out, HB1.out⟩
  case round =>
    clear HB1 HZ1 HD1
    obtain ⟨k, T, D, Y, hk, rfl, rfl, rfl, rfl, hT, hD, hY, hrs, hz, htk, hb⟩ := hrel
    have HT := Lib.hid hT
    have HD := Lib.hid hD
    have HY := Lib.hid hY
    have HRS := Lib.hid hrs
    have HZ := Lib.hid hz
    have HTK := Lib.hid htk
    have HB := Lib.hid hb
    clear hT hD hY hrs hz htk hb
    by_cases hlt : k < (tokL s.data.toList).length
    · obtain ⟨rfl, hg, hgB⟩ := HGA.out (by omega)
      obtain ⟨U, hU⟩ : ∃ U : ByteArray, U = ⟨((tokL s.data.toList)[k]'hlt).toArray⟩ := ⟨_, rfl⟩
      have hUl : U.data.toList = (tokL s.data.toList)[k]'hlt := by rw [hU]
      have hck := HTK.out k hlt
      rw [strV, ← hU] at hck
      have HUL := Lib.hid hUl
      have HUV := Lib.hid hU
      have hkI : (k : Int) < ((tokL s.data.toList).length : Int) := by omega
      obtain ⟨M, hM⟩ : ∃ M, decide (0 < (readK s.data.toList k).m) = M := ⟨_, rfl⟩
      obtain ⟨C, hC⟩ : ∃ C, decide (0 < monB U) = C := ⟨_, rfl⟩
      obtain ⟨A, hA⟩ : ∃ A, tmB U = A := ⟨_, rfl⟩
      obtain ⟨b2, h2⟩ : ∃ b2, ldB 1 2 U = b2 := ⟨_, rfl⟩
      obtain ⟨b4, h4⟩ : ∃ b4, ldB 2 4 U = b4 := ⟨_, rfl⟩
      have HK : Hid (Know (readK s.data.toList k) U T D M Y C A b2 b4) := Lib.hid ⟨HT.out, HD.out, hM, HY.out, hC, hA, h2, h4⟩
      obtain ⟨vy, hvy⟩ : ∃ v, (readK s.data.toList k).y.getD 0 = v := ⟨_, rfl⟩
      obtain ⟨vm, hvm⟩ : ∃ v : Int, ((readK s.data.toList k).m : Int) = v := ⟨_, rfl⟩
      obtain ⟨vd, hvd⟩ : ∃ v, (readK s.data.toList k).d.getD 0 = v := ⟨_, rfl⟩
      obtain ⟨vh, hvh⟩ : ∃ v, ((readK s.data.toList k).t.getD (0, 0, 0)).1 = v := ⟨_, rfl⟩
      obtain ⟨vn, hvn⟩ : ∃ v, ((readK s.data.toList k).t.getD (0, 0, 0)).2.1 = v := ⟨_, rfl⟩
      obtain ⟨vs, hvs⟩ : ∃ v, ((readK s.data.toList k).t.getD (0, 0, 0)).2.2 = v := ⟨_, rfl⟩
      have hq : (vm == 0) = !M := by rw [← hvm, zero_eq, hM]
      have hblk : Blk wr (w.heap.size + 1) vy vm vd vh vn vs := by
        have := HRS.out
        unfold RS at this
        rw [hvy, hvm, hvd, hvh, hvn, hvs] at this
        exact this
      have HBL := Lib.hid hblk
      obtain ⟨mU, hmU⟩ : ∃ v : Int, ((monB U : Nat) : Int) = v := ⟨_, rfl⟩
      have hqc : decide (0 < mU) = C := by rw [← hC, ← hmU]; simp
      have HMU := Lib.hid hmU
      have HQ := Lib.hid hq
      have HQC := Lib.hid hqc
      have HA := Lib.hid hA
      have H2 := Lib.hid h2
      have H4 := Lib.hid h4
      clear hU hUl hM hC hA h2 h4 hvy hvm hvd hvh hvn hvs hq hblk hmU hqc
      go_wp2_with fail
      refine (specTime U _).mono ?_
      rintro e w_0 ⟨ta, tb, tc, rfl, hv, hb⟩
      rw [HA.out]
      have HV := Lib.hid hv
      clear hv hck
      have HRS_0 : Hid (RS w_0 (w.heap.size + 1) (readK s.data.toList k)) := Lib.hid (Blk.below HRS.out hb)
      have hblk := Blk.below HBL.out hb
      have HBL_0 := Lib.hid hblk
      have HZ_0 := Lib.hid (HZ.out.below hb)
      have htk := HTK.out.below hb
      have HTK_0 := Lib.hid htk
      have HB_0 := Lib.hid (HB.out.trans (hb.mono HB.out.size))
      have hck := htk k hlt
      rw [strV, ← HUV.out] at hck
      have f0 := hblk.free 0
      have f1 := hblk.free 1
      have f2 := hblk.free 2
      have f3 := hblk.free 3
      have f4 := hblk.free 4
      have f5 := hblk.free 5
      obtain ⟨c0, c1, c2, c3, c4, c5⟩ := hblk.at
      clear hb hblk htk
      cases T with
      | true =>
        go_wp2_with fail
        refine (specLead12 U _).mono ?_
        rintro e w_1 ⟨dn, dr, rfl, hv, hb⟩
        rw [H2.out] at hv ⊢
        have HVD := Lib.hid hv
        clear hv hck f0 f1 f2 f3 f4 f5 c0 c1 c2 c3 c4 c5
        have HRS_1 : Hid (RS w_1 (w.heap.size + 1) (readK s.data.toList k)) := Lib.hid (Blk.below HRS_0.out hb)
        have hblk := Blk.below HBL_0.out hb
        have HBL_1 := Lib.hid hblk
        have HZ_1 := Lib.hid (HZ_0.out.below hb)
        have htk := HTK_0.out.below hb
        have HTK_1 := Lib.hid htk
        have HB_1 := Lib.hid (HB_0.out.trans (hb.mono HB_0.out.size))
        have hck := htk k hlt
        rw [strV, ← HUV.out] at hck
        have f0 := hblk.free 0
        have f1 := hblk.free 1
        have f2 := hblk.free 2
        have f3 := hblk.free 3
        have f4 := hblk.free 4
        have f5 := hblk.free 5
        obtain ⟨c0, c1, c2, c3, c4, c5⟩ := hblk.at
        clear hb hblk htk
        cases D with
        | true =>
          go_wp2_with fail
          refine (specMonth U _).mono ?_
          rintro e w_2 ⟨rfl, hb⟩
          rw [HMU.out]
          clear hck f0 f1 f2 f3 f4 f5 c0 c1 c2 c3 c4 c5
          have HRS_2 : Hid (RS w_2 (w.heap.size + 1) (readK s.data.toList k)) := Lib.hid (Blk.below HRS_1.out hb)
          have hblk := Blk.below HBL_1.out hb
          have HBL_2 := Lib.hid hblk
          have HZ_2 := Lib.hid (HZ_1.out.below hb)
          have htk := HTK_1.out.below hb
          have HTK_2 := Lib.hid htk
          have HB_2 := Lib.hid (HB_1.out.trans (hb.mono HB_1.out.size))
          have hck := htk k hlt
          rw [strV, ← HUV.out] at hck
          have f0 := hblk.free 0
          have f1 := hblk.free 1
          have f2 := hblk.free 2
          have f3 := hblk.free 3
          have f4 := hblk.free 4
          have f5 := hblk.free 5
          obtain ⟨c0, c1, c2, c3, c4, c5⟩ := hblk.at
          clear hb hblk htk
          have hq := HQ.out
          have hqc := HQC.out
          cases M with
          | true =>
            simp only [Bool.not_true] at hq
            clear hqc
            go_wp2_with fail
            try clear hq
            try clear hqc
            refine (specLead24 U _).mono ?_
            rintro e w_3 ⟨yn, yr, rfl, hv, hb⟩
            rw [H4.out] at hv ⊢
            have HVY := Lib.hid hv
            clear hv hck f0 f1 f2 f3 f4 f5 c0 c1 c2 c3 c4 c5
            have HRS_3 : Hid (RS w_3 (w.heap.size + 1) (readK s.data.toList k)) := Lib.hid (Blk.below HRS_2.out hb)
            have hblk := Blk.below HBL_2.out hb
            have HBL_3 := Lib.hid hblk
            have HZ_3 := Lib.hid (HZ_2.out.below hb)
            have htk := HTK_2.out.below hb
            have HTK_3 := Lib.hid htk
            have HB_3 := Lib.hid (HB_2.out.trans (hb.mono HB_2.out.size))
            have hck := htk k hlt
            rw [strV, ← HUV.out] at hck
            have f0 := hblk.free 0
            have f1 := hblk.free 1
            have f2 := hblk.free 2
            have f3 := hblk.free 3
            have f4 := hblk.free 4
            have f5 := hblk.free 5
            obtain ⟨c0, c1, c2, c3, c4, c5⟩ := hblk.at
            clear hb hblk htk
            cases Y with
            | true =>
              go_wp2_with fail
              go_roundw
              case rel => exact s_none hlt HUL.out HK.out rfl rfl rfl rfl HRS_3.out HZ_3.out HTK_3.out HB_3.out
              case measure => simp [intOf]; omega
            | false =>
              cases b4 with
              | true =>
                go_wp2_with fail
                go_roundw
                case rel => exact s_year hlt HUL.out HK.out rfl rfl rfl rfl (fun _ => (HVY.out (by trivial)).1) hgB HRS_3.out HZ_3.out HTK_3.out HB_3.out
                case measure => simp [intOf]; omega
              | false =>
                go_wp2_with fail
                go_roundw
                case rel => exact s_none hlt HUL.out HK.out rfl rfl rfl rfl HRS_3.out HZ_3.out HTK_3.out HB_3.out
                case measure => simp [intOf]; omega
          | false =>
            simp only [Bool.not_false] at hq
            cases C with
            | true =>
              go_wp2_with fail
              go_roundw
              case rel => exact (by rw [← HMU.out]; exact s_month hlt HUL.out HK.out rfl rfl rfl hgB HRS_2.out HZ_2.out HTK_2.out HB_2.out)
              case measure => simp [intOf]; omega
            | false =>
              go_wp2_with fail
              try clear hq
              try clear hqc
              refine (specLead24 U _).mono ?_
              rintro e w_3 ⟨yn, yr, rfl, hv, hb⟩
              rw [H4.out] at hv ⊢
              have HVY := Lib.hid hv
              clear hv hck f0 f1 f2 f3 f4 f5 c0 c1 c2 c3 c4 c5
              have HRS_3 : Hid (RS w_3 (w.heap.size + 1) (readK s.data.toList k)) := Lib.hid (Blk.below HRS_2.out hb)
              have hblk := Blk.below HBL_2.out hb
              have HBL_3 := Lib.hid hblk
              have HZ_3 := Lib.hid (HZ_2.out.below hb)
              have htk := HTK_2.out.below hb
              have HTK_3 := Lib.hid htk
              have HB_3 := Lib.hid (HB_2.out.trans (hb.mono HB_2.out.size))
              have hck := htk k hlt
              rw [strV, ← HUV.out] at hck
              have f0 := hblk.free 0
              have f1 := hblk.free 1
              have f2 := hblk.free 2
              have f3 := hblk.free 3
              have f4 := hblk.free 4
              have f5 := hblk.free 5
              obtain ⟨c0, c1, c2, c3, c4, c5⟩ := hblk.at
              clear hb hblk htk
              cases Y with
              | true =>
                go_wp2_with fail
                go_roundw
                case rel => exact s_none hlt HUL.out HK.out rfl rfl rfl rfl HRS_3.out HZ_3.out HTK_3.out HB_3.out
                case measure => simp [intOf]; omega
              | false =>
                cases b4 with
                | true =>
                  go_wp2_with fail
                  go_roundw
                  case rel => exact s_year hlt HUL.out HK.out rfl rfl rfl rfl (fun _ => (HVY.out (by trivial)).1) hgB HRS_3.out HZ_3.out HTK_3.out HB_3.out
                  case measure => simp [intOf]; omega
                | false =>
                  go_wp2_with fail
                  go_roundw
                  case rel => exact s_none hlt HUL.out HK.out rfl rfl rfl rfl HRS_3.out HZ_3.out HTK_3.out HB_3.out
                  case measure => simp [intOf]; omega
        | false =>
          cases b2 with
          | true =>
            go_wp2_with fail
            go_roundw
            case rel => exact s_day hlt HUL.out HK.out rfl rfl (fun _ => (HVD.out (by trivial)).1) hgB HRS_1.out HZ_1.out HTK_1.out HB_1.out
            case measure => simp [intOf]; omega
          | false =>
            go_wp2_with fail
            refine (specMonth U _).mono ?_
            rintro e w_2 ⟨rfl, hb⟩
            rw [HMU.out]
            clear hck f0 f1 f2 f3 f4 f5 c0 c1 c2 c3 c4 c5
            have HRS_2 : Hid (RS w_2 (w.heap.size + 1) (readK s.data.toList k)) := Lib.hid (Blk.below HRS_1.out hb)
            have hblk := Blk.below HBL_1.out hb
            have HBL_2 := Lib.hid hblk
            have HZ_2 := Lib.hid (HZ_1.out.below hb)
            have htk := HTK_1.out.below hb
            have HTK_2 := Lib.hid htk
            have HB_2 := Lib.hid (HB_1.out.trans (hb.mono HB_1.out.size))
            have hck := htk k hlt
            rw [strV, ← HUV.out] at hck
            have f0 := hblk.free 0
            have f1 := hblk.free 1
            have f2 := hblk.free 2
            have f3 := hblk.free 3
            have f4 := hblk.free 4
            have f5 := hblk.free 5
            obtain ⟨c0, c1, c2, c3, c4, c5⟩ := hblk.at
            clear hb hblk htk
            have hq := HQ.out
            have hqc := HQC.out
            cases M with
            | true =>
              simp only [Bool.not_true] at hq
              clear hqc
              go_wp2_with fail
              try clear hq
              try clear hqc
              refine (specLead24 U _).mono ?_
              rintro e w_3 ⟨yn, yr, rfl, hv, hb⟩
              rw [H4.out] at hv ⊢
              have HVY := Lib.hid hv
              clear hv hck f0 f1 f2 f3 f4 f5 c0 c1 c2 c3 c4 c5
              have HRS_3 : Hid (RS w_3 (w.heap.size + 1) (readK s.data.toList k)) := Lib.hid (Blk.below HRS_2.out hb)
              have hblk := Blk.below HBL_2.out hb
              have HBL_3 := Lib.hid hblk
              have HZ_3 := Lib.hid (HZ_2.out.below hb)
              have htk := HTK_2.out.below hb
              have HTK_3 := Lib.hid htk
              have HB_3 := Lib.hid (HB_2.out.trans (hb.mono HB_2.out.size))
              have hck := htk k hlt
              rw [strV, ← HUV.out] at hck
              have f0 := hblk.free 0
              have f1 := hblk.free 1
              have f2 := hblk.free 2
              have f3 := hblk.free 3
              have f4 := hblk.free 4
              have f5 := hblk.free 5
              obtain ⟨c0, c1, c2, c3, c4, c5⟩ := hblk.at
              clear hb hblk htk
              cases Y with
              | true =>
                go_wp2_with fail
                go_roundw
                case rel => exact s_none hlt HUL.out HK.out rfl rfl rfl rfl HRS_3.out HZ_3.out HTK_3.out HB_3.out
                case measure => simp [intOf]; omega
              | false =>
                cases b4 with
                | true =>
                  go_wp2_with fail
                  go_roundw
                  case rel => exact s_year hlt HUL.out HK.out rfl rfl rfl rfl (fun _ => (HVY.out (by trivial)).1) hgB HRS_3.out HZ_3.out HTK_3.out HB_3.out
                  case measure => simp [intOf]; omega
                | false =>
                  go_wp2_with fail
                  go_roundw
                  case rel => exact s_none hlt HUL.out HK.out rfl rfl rfl rfl HRS_3.out HZ_3.out HTK_3.out HB_3.out
                  case measure => simp [intOf]; omega
            | false =>
              simp only [Bool.not_false] at hq
              cases C with
              | true =>
                go_wp2_with fail
                go_roundw
                case rel => exact (by rw [← HMU.out]; exact s_month hlt HUL.out HK.out rfl rfl rfl hgB HRS_2.out HZ_2.out HTK_2.out HB_2.out)
                case measure => simp [intOf]; omega
              | false =>
                go_wp2_with fail
                try clear hq
                try clear hqc
                refine (specLead24 U _).mono ?_
                rintro e w_3 ⟨yn, yr, rfl, hv, hb⟩
                rw [H4.out] at hv ⊢
                have HVY := Lib.hid hv
                clear hv hck f0 f1 f2 f3 f4 f5 c0 c1 c2 c3 c4 c5
                have HRS_3 : Hid (RS w_3 (w.heap.size + 1) (readK s.data.toList k)) := Lib.hid (Blk.below HRS_2.out hb)
                have hblk := Blk.below HBL_2.out hb
                have HBL_3 := Lib.hid hblk
                have HZ_3 := Lib.hid (HZ_2.out.below hb)
                have htk := HTK_2.out.below hb
                have HTK_3 := Lib.hid htk
                have HB_3 := Lib.hid (HB_2.out.trans (hb.mono HB_2.out.size))
                have hck := htk k hlt
                rw [strV, ← HUV.out] at hck
                have f0 := hblk.free 0
                have f1 := hblk.free 1
                have f2 := hblk.free 2
                have f3 := hblk.free 3
                have f4 := hblk.free 4
                have f5 := hblk.free 5
                obtain ⟨c0, c1, c2, c3, c4, c5⟩ := hblk.at
                clear hb hblk htk
                cases Y with
                | true =>
                  go_wp2_with fail
                  go_roundw
                  case rel => exact s_none hlt HUL.out HK.out rfl rfl rfl rfl HRS_3.out HZ_3.out HTK_3.out HB_3.out
                  case measure => simp [intOf]; omega
                | false =>
                  cases b4 with
                  | true =>
                    go_wp2_with fail
                    go_roundw
                    case rel => exact s_year hlt HUL.out HK.out rfl rfl rfl rfl (fun _ => (HVY.out (by trivial)).1) hgB HRS_3.out HZ_3.out HTK_3.out HB_3.out
                    case measure => simp [intOf]; omega
                  | false =>
                    go_wp2_with fail
                    go_roundw
                    case rel => exact s_none hlt HUL.out HK.out rfl rfl rfl rfl HRS_3.out HZ_3.out HTK_3.out HB_3.out
                    case measure => simp [intOf]; omega
      | false =>
        cases A with
        | true =>
          go_wp2_with fail
          go_roundw
          case rel => exact s_time hlt HUL.out HK.out rfl HV.out hgB HRS_0.out HZ_0.out HTK_0.out HB_0.out
          case measure => simp [intOf]; omega
        | false =>
          go_wp2_with fail
          refine (specLead12 U _).mono ?_
          rintro e w_1 ⟨dn, dr, rfl, hv, hb⟩
          rw [H2.out] at hv ⊢
          have HVD := Lib.hid hv
          clear hv hck f0 f1 f2 f3 f4 f5 c0 c1 c2 c3 c4 c5
          have HRS_1 : Hid (RS w_1 (w.heap.size + 1) (readK s.data.toList k)) := Lib.hid (Blk.below HRS_0.out hb)
          have hblk := Blk.below HBL_0.out hb
          have HBL_1 := Lib.hid hblk
          have HZ_1 := Lib.hid (HZ_0.out.below hb)
          have htk := HTK_0.out.below hb
          have HTK_1 := Lib.hid htk
          have HB_1 := Lib.hid (HB_0.out.trans (hb.mono HB_0.out.size))
          have hck := htk k hlt
          rw [strV, ← HUV.out] at hck
          have f0 := hblk.free 0
          have f1 := hblk.free 1
          have f2 := hblk.free 2
          have f3 := hblk.free 3
          have f4 := hblk.free 4
          have f5 := hblk.free 5
          obtain ⟨c0, c1, c2, c3, c4, c5⟩ := hblk.at
          clear hb hblk htk
          cases D with
          | true =>
            go_wp2_with fail
            refine (specMonth U _).mono ?_
            rintro e w_2 ⟨rfl, hb⟩
            rw [HMU.out]
            clear hck f0 f1 f2 f3 f4 f5 c0 c1 c2 c3 c4 c5
            have HRS_2 : Hid (RS w_2 (w.heap.size + 1) (readK s.data.toList k)) := Lib.hid (Blk.below HRS_1.out hb)
            have hblk := Blk.below HBL_1.out hb
            have HBL_2 := Lib.hid hblk
            have HZ_2 := Lib.hid (HZ_1.out.below hb)
            have htk := HTK_1.out.below hb
            have HTK_2 := Lib.hid htk
            have HB_2 := Lib.hid (HB_1.out.trans (hb.mono HB_1.out.size))
            have hck := htk k hlt
            rw [strV, ← HUV.out] at hck
            have f0 := hblk.free 0
            have f1 := hblk.free 1
            have f2 := hblk.free 2
            have f3 := hblk.free 3
            have f4 := hblk.free 4
            have f5 := hblk.free 5
            obtain ⟨c0, c1, c2, c3, c4, c5⟩ := hblk.at
            clear hb hblk htk
            have hq := HQ.out
            have hqc := HQC.out
            cases M with
            | true =>
              simp only [Bool.not_true] at hq
              clear hqc
              go_wp2_with fail
              try clear hq
              try clear hqc
              refine (specLead24 U _).mono ?_
              rintro e w_3 ⟨yn, yr, rfl, hv, hb⟩
              rw [H4.out] at hv ⊢
              have HVY := Lib.hid hv
              clear hv hck f0 f1 f2 f3 f4 f5 c0 c1 c2 c3 c4 c5
              have HRS_3 : Hid (RS w_3 (w.heap.size + 1) (readK s.data.toList k)) := Lib.hid (Blk.below HRS_2.out hb)
              have hblk := Blk.below HBL_2.out hb
              have HBL_3 := Lib.hid hblk
              have HZ_3 := Lib.hid (HZ_2.out.below hb)
              have htk := HTK_2.out.below hb
              have HTK_3 := Lib.hid htk
              have HB_3 := Lib.hid (HB_2.out.trans (hb.mono HB_2.out.size))
              have hck := htk k hlt
              rw [strV, ← HUV.out] at hck
              have f0 := hblk.free 0
              have f1 := hblk.free 1
              have f2 := hblk.free 2
              have f3 := hblk.free 3
              have f4 := hblk.free 4
              have f5 := hblk.free 5
              obtain ⟨c0, c1, c2, c3, c4, c5⟩ := hblk.at
              clear hb hblk htk
              cases Y with
              | true =>
                go_wp2_with fail
                go_roundw
                case rel => exact s_none hlt HUL.out HK.out rfl rfl rfl rfl HRS_3.out HZ_3.out HTK_3.out HB_3.out
                case measure => simp [intOf]; omega
              | false =>
                cases b4 with
                | true =>
                  go_wp2_with fail
                  go_roundw
                  case rel => exact s_year hlt HUL.out HK.out rfl rfl rfl rfl (fun _ => (HVY.out (by trivial)).1) hgB HRS_3.out HZ_3.out HTK_3.out HB_3.out
                  case measure => simp [intOf]; omega
                | false =>
                  go_wp2_with fail
                  go_roundw
                  case rel => exact s_none hlt HUL.out HK.out rfl rfl rfl rfl HRS_3.out HZ_3.out HTK_3.out HB_3.out
                  case measure => simp [intOf]; omega
            | false =>
              simp only [Bool.not_false] at hq
              cases C with
              | true =>
                go_wp2_with fail
                go_roundw
                case rel => exact (by rw [← HMU.out]; exact s_month hlt HUL.out HK.out rfl rfl rfl hgB HRS_2.out HZ_2.out HTK_2.out HB_2.out)
                case measure => simp [intOf]; omega
              | false =>
                go_wp2_with fail
                try clear hq
                try clear hqc
                refine (specLead24 U _).mono ?_
                rintro e w_3 ⟨yn, yr, rfl, hv, hb⟩
                rw [H4.out] at hv ⊢
                have HVY := Lib.hid hv
                clear hv hck f0 f1 f2 f3 f4 f5 c0 c1 c2 c3 c4 c5
                have HRS_3 : Hid (RS w_3 (w.heap.size + 1) (readK s.data.toList k)) := Lib.hid (Blk.below HRS_2.out hb)
                have hblk := Blk.below HBL_2.out hb
                have HBL_3 := Lib.hid hblk
                have HZ_3 := Lib.hid (HZ_2.out.below hb)
                have htk := HTK_2.out.below hb
                have HTK_3 := Lib.hid htk
                have HB_3 := Lib.hid (HB_2.out.trans (hb.mono HB_2.out.size))
                have hck := htk k hlt
                rw [strV, ← HUV.out] at hck
                have f0 := hblk.free 0
                have f1 := hblk.free 1
                have f2 := hblk.free 2
                have f3 := hblk.free 3
                have f4 := hblk.free 4
                have f5 := hblk.free 5
                obtain ⟨c0, c1, c2, c3, c4, c5⟩ := hblk.at
                clear hb hblk htk
                cases Y with
                | true =>
                  go_wp2_with fail
                  go_roundw
                  case rel => exact s_none hlt HUL.out HK.out rfl rfl rfl rfl HRS_3.out HZ_3.out HTK_3.out HB_3.out
                  case measure => simp [intOf]; omega
                | false =>
                  cases b4 with
                  | true =>
                    go_wp2_with fail
                    go_roundw
                    case rel => exact s_year hlt HUL.out HK.out rfl rfl rfl rfl (fun _ => (HVY.out (by trivial)).1) hgB HRS_3.out HZ_3.out HTK_3.out HB_3.out
                    case measure => simp [intOf]; omega
                  | false =>
                    go_wp2_with fail
                    go_roundw
                    case rel => exact s_none hlt HUL.out HK.out rfl rfl rfl rfl HRS_3.out HZ_3.out HTK_3.out HB_3.out
                    case measure => simp [intOf]; omega
          | false =>
            cases b2 with
            | true =>
              go_wp2_with fail
              go_roundw
              case rel => exact s_day hlt HUL.out HK.out rfl rfl (fun _ => (HVD.out (by trivial)).1) hgB HRS_1.out HZ_1.out HTK_1.out HB_1.out
              case measure => simp [intOf]; omega
            | false =>
              go_wp2_with fail
              refine (specMonth U _).mono ?_
              rintro e w_2 ⟨rfl, hb⟩
              rw [HMU.out]
              clear hck f0 f1 f2 f3 f4 f5 c0 c1 c2 c3 c4 c5
              have HRS_2 : Hid (RS w_2 (w.heap.size + 1) (readK s.data.toList k)) := Lib.hid (Blk.below HRS_1.out hb)
              have hblk := Blk.below HBL_1.out hb
              have HBL_2 := Lib.hid hblk
              have HZ_2 := Lib.hid (HZ_1.out.below hb)
              have htk := HTK_1.out.below hb
              have HTK_2 := Lib.hid htk
              have HB_2 := Lib.hid (HB_1.out.trans (hb.mono HB_1.out.size))
              have hck := htk k hlt
              rw [strV, ← HUV.out] at hck
              have f0 := hblk.free 0
              have f1 := hblk.free 1
              have f2 := hblk.free 2
              have f3 := hblk.free 3
              have f4 := hblk.free 4
              have f5 := hblk.free 5
              obtain ⟨c0, c1, c2, c3, c4, c5⟩ := hblk.at
              clear hb hblk htk
              have hq := HQ.out
              have hqc := HQC.out
              cases M with
              | true =>
                simp only [Bool.not_true] at hq
                clear hqc
                go_wp2_with fail
                try clear hq
                try clear hqc
                refine (specLead24 U _).mono ?_
                rintro e w_3 ⟨yn, yr, rfl, hv, hb⟩
                rw [H4.out] at hv ⊢
                have HVY := Lib.hid hv
                clear hv hck f0 f1 f2 f3 f4 f5 c0 c1 c2 c3 c4 c5
                have HRS_3 : Hid (RS w_3 (w.heap.size + 1) (readK s.data.toList k)) := Lib.hid (Blk.below HRS_2.out hb)
                have hblk := Blk.below HBL_2.out hb
                have HBL_3 := Lib.hid hblk
                have HZ_3 := Lib.hid (HZ_2.out.below hb)
                have htk := HTK_2.out.below hb
                have HTK_3 := Lib.hid htk
                have HB_3 := Lib.hid (HB_2.out.trans (hb.mono HB_2.out.size))
                have hck := htk k hlt
                rw [strV, ← HUV.out] at hck
                have f0 := hblk.free 0
                have f1 := hblk.free 1
                have f2 := hblk.free 2
                have f3 := hblk.free 3
                have f4 := hblk.free 4
                have f5 := hblk.free 5
                obtain ⟨c0, c1, c2, c3, c4, c5⟩ := hblk.at
                clear hb hblk htk
                cases Y with
                | true =>
                  go_wp2_with fail
                  go_roundw
                  case rel => exact s_none hlt HUL.out HK.out rfl rfl rfl rfl HRS_3.out HZ_3.out HTK_3.out HB_3.out
                  case measure => simp [intOf]; omega
                | false =>
                  cases b4 with
                  | true =>
                    go_wp2_with fail
                    go_roundw
                    case rel => exact s_year hlt HUL.out HK.out rfl rfl rfl rfl (fun _ => (HVY.out (by trivial)).1) hgB HRS_3.out HZ_3.out HTK_3.out HB_3.out
                    case measure => simp [intOf]; omega
                  | false =>
                    go_wp2_with fail
                    go_roundw
                    case rel => exact s_none hlt HUL.out HK.out rfl rfl rfl rfl HRS_3.out HZ_3.out HTK_3.out HB_3.out
                    case measure => simp [intOf]; omega
              | false =>
                simp only [Bool.not_false] at hq
                cases C with
                | true =>
                  go_wp2_with fail
                  go_roundw
                  case rel => exact (by rw [← HMU.out]; exact s_month hlt HUL.out HK.out rfl rfl rfl hgB HRS_2.out HZ_2.out HTK_2.out HB_2.out)
                  case measure => simp [intOf]; omega
                | false =>
                  go_wp2_with fail
                  try clear hq
                  try clear hqc
                  refine (specLead24 U _).mono ?_
                  rintro e w_3 ⟨yn, yr, rfl, hv, hb⟩
                  rw [H4.out] at hv ⊢
                  have HVY := Lib.hid hv
                  clear hv hck f0 f1 f2 f3 f4 f5 c0 c1 c2 c3 c4 c5
                  have HRS_3 : Hid (RS w_3 (w.heap.size + 1) (readK s.data.toList k)) := Lib.hid (Blk.below HRS_2.out hb)
                  have hblk := Blk.below HBL_2.out hb
                  have HBL_3 := Lib.hid hblk
                  have HZ_3 := Lib.hid (HZ_2.out.below hb)
                  have htk := HTK_2.out.below hb
                  have HTK_3 := Lib.hid htk
                  have HB_3 := Lib.hid (HB_2.out.trans (hb.mono HB_2.out.size))
                  have hck := htk k hlt
                  rw [strV, ← HUV.out] at hck
                  have f0 := hblk.free 0
                  have f1 := hblk.free 1
                  have f2 := hblk.free 2
                  have f3 := hblk.free 3
                  have f4 := hblk.free 4
                  have f5 := hblk.free 5
                  obtain ⟨c0, c1, c2, c3, c4, c5⟩ := hblk.at
                  clear hb hblk htk
                  cases Y with
                  | true =>
                    go_wp2_with fail
                    go_roundw
                    case rel => exact s_none hlt HUL.out HK.out rfl rfl rfl rfl HRS_3.out HZ_3.out HTK_3.out HB_3.out
                    case measure => simp [intOf]; omega
                  | false =>
                    cases b4 with
                    | true =>
                      go_wp2_with fail
                      go_roundw
                      case rel => exact s_year hlt HUL.out HK.out rfl rfl rfl rfl (fun _ => (HVY.out (by trivial)).1) hgB HRS_3.out HZ_3.out HTK_3.out HB_3.out
                      case measure => simp [intOf]; omega
                    | false =>
                      go_wp2_with fail
                      go_roundw
                      case rel => exact s_none hlt HUL.out HK.out rfl rfl rfl rfl HRS_3.out HZ_3.out HTK_3.out HB_3.out
                      case measure => simp [intOf]; omega
    · obtain rfl : k = (tokL s.data.toList).length := by omega
      have hrs := HRS.out
      have hT := HT.out
      have hD := HD.out
      have hY := HY.out
      rw [readK_all] at hrs hT hD hY
      have hde := dateR_eq (readL s.data.toList)
      rw [hT, hD, hY] at hde
      obtain ⟨hy0, hy9⟩ := read_year s.data.toList
      unfold RS at hrs
      obtain ⟨vy, hvy⟩ : ∃ v, (readL s.data.toList).y.getD 0 = v := ⟨_, rfl⟩
      obtain ⟨vm, hvm⟩ : ∃ v : Int, ((readL s.data.toList).m : Int) = v := ⟨_, rfl⟩
      obtain ⟨vd, hvd⟩ : ∃ v, (readL s.data.toList).d.getD 0 = v := ⟨_, rfl⟩
      obtain ⟨vh, hvh⟩ : ∃ v, ((readL s.data.toList).t.getD (0, 0, 0)).1 = v := ⟨_, rfl⟩
      obtain ⟨vn, hvn⟩ : ∃ v, ((readL s.data.toList).t.getD (0, 0, 0)).2.1 = v := ⟨_, rfl⟩
      obtain ⟨vs, hvs⟩ : ∃ v, ((readL s.data.toList).t.getD (0, 0, 0)).2.2 = v := ⟨_, rfl⟩
      rw [hvy, hvm, hvd, hvh, hvn, hvs] at hrs hde
      rw [hvy] at hy0 hy9
      have HDE := Lib.hid hde
      have HBL := Lib.hid hrs
      have hz := HZ.out
      have f0 := hrs.free 0
      obtain ⟨c0, c1, c2, c3, c4, c5⟩ := hrs.at
      clear HRS HTK HT HD HY hT hD hY hde hvy hvm hvd hvh hvn hvs
      cases h7 : inB vy 70 99 with
      | true =>
        have HI7 := Lib.hid h7
        have hb7 := in_iff.1 h7
        have HFY : Hid (fullY vy = vy + 1900) := by show fullY vy = _; unfold fullY; rw [if_neg (by omega), if_pos (by omega)]
        clear h7 hz
        go_wp2_with fail
        refine (in_any _ _ _ _).mono ?_
        rintro e w' ⟨rfl, rfl⟩
        rw [HI7.out]
        go_wp2_with fail
        obtain ⟨wF, hWF⟩ : ∃ x, wr.setCell ⟨w.heap.size + 1, 0, none⟩ (.int .i64 (vy + 1900)) = x := ⟨_, rfl⟩
        obtain ⟨yF, hyF⟩ : ∃ y, vy + 1900 = y := ⟨_, rfl⟩
        have hBF : Blk wF (w.heap.size + 1) yF vm vd vh vn vs := by rw [← hWF, ← hyF]; exact HBL.out.year _
        have hZF : Blk wF w.heap.size 0 0 0 0 0 0 := by rw [← hWF]; exact HZ.out.other (by omega)
        have hEF : Below w.heap.size w wF := by rw [← hWF]; exact HB.out.setCell (Nat.le_succ _) _
        rw [hyF] at HFY
        rw [hWF]
        clear hWF hyF
        rw [HFY.out] at HDE
        clear c0 c1 c2 c3 c4 c5 f0 HBL HZ HB HFY hy0 hy9
        have HBF := Lib.hid hBF
        have HZF := Lib.hid hZF
        have HEF := Lib.hid hEF
        obtain ⟨c0, c1, c2, c3, c4, c5⟩ := hBF.at
        have f0 := hZF.free 0
        have f1 := hZF.free 1
        have f2 := hZF.free 2
        have f3 := hZF.free 3
        have f4 := hZF.free 4
        have f5 := hZF.free 5
        obtain ⟨r0, r1, r2, r3, r4, r5⟩ := hZF.at
        clear hBF hZF hEF
        cases T with
        | false =>
          have HN := Lib.hid (show dateR (readL s.data.toList) = none from HDE.out)
          go_region
          refine ‹∀ (a : Act) (w_1 : World), Code.wp Tryz.prog Code.ret (bodyPost Tryz.prog Tryz.f265 (SReadPost w s)) a w_1 → _› _ _ ?_
          go_wp2_with fail
          obtain ⟨q0, q1, q2, q3, q4, q5⟩ := (HZF.out.put yF vm vd vh vn vs).at
          refine bodyPost_ret (v := .tuple #[.agg #[.int .i64 yF, .int .i64 vm, .int .i64 vd, .int .i64 vh, .int .i64 vn, .int .i64 vs], .bool false]) (by simp [results, Tryz.results265, go_sem, q0, q1, q2, q3, q4, q5]) rfl ?_
          exact sread_no HN.out (Blk.putBelow HEF.out (Nat.le_refl _) _ _ _ _ _ _).drew
        | true =>
          cases D with
          | false =>
            have HN := Lib.hid (show dateR (readL s.data.toList) = none from HDE.out)
            go_region
            refine ‹∀ (a : Act) (w_1 : World), Code.wp Tryz.prog Code.ret (bodyPost Tryz.prog Tryz.f265 (SReadPost w s)) a w_1 → _› _ _ ?_
            go_wp2_with fail
            obtain ⟨q0, q1, q2, q3, q4, q5⟩ := (HZF.out.put yF vm vd vh vn vs).at
            refine bodyPost_ret (v := .tuple #[.agg #[.int .i64 yF, .int .i64 vm, .int .i64 vd, .int .i64 vh, .int .i64 vn, .int .i64 vs], .bool false]) (by simp [results, Tryz.results265, go_sem, q0, q1, q2, q3, q4, q5]) rfl ?_
            exact sread_no HN.out (Blk.putBelow HEF.out (Nat.le_refl _) _ _ _ _ _ _).drew
          | true =>
            cases Y with
            | false =>
              have HN := Lib.hid (show dateR (readL s.data.toList) = none from HDE.out)
              go_region
              refine ‹∀ (a : Act) (w_1 : World), Code.wp Tryz.prog Code.ret (bodyPost Tryz.prog Tryz.f265 (SReadPost w s)) a w_1 → _› _ _ ?_
              go_wp2_with fail
              obtain ⟨q0, q1, q2, q3, q4, q5⟩ := (HZF.out.put yF vm vd vh vn vs).at
              refine bodyPost_ret (v := .tuple #[.agg #[.int .i64 yF, .int .i64 vm, .int .i64 vd, .int .i64 vh, .int .i64 vn, .int .i64 vs], .bool false]) (by simp [results, Tryz.results265, go_sem, q0, q1, q2, q3, q4, q5]) rfl ?_
              exact sread_no HN.out (Blk.putBelow HEF.out (Nat.le_refl _) _ _ _ _ _ _).drew
            | true =>
              go_region_with (first | (go_at_call 321; refine (specOK yF vm vd vh vn vs _).mono ?_; rintro e w' ⟨rfl, hb⟩; have hbl := below_drew_step hb; have hzG := HZF.out.below hbl; have HEG := Lib.hid (HEF.out.trans (hbl.mono HEF.out.size)); have hbG := HBF.out.below hbl; clear hb hbl; obtain ⟨c0', c1', c2', c3', c4', c5'⟩ := hbG.at; obtain ⟨r0', r1', r2', r3', r4', r5'⟩ := hzG.at; have f0' := hzG.free 0; have f1' := hzG.free 1; have f2' := hzG.free 2; have f3' := hzG.free 3; have f4' := hzG.free 4; have f5' := hzG.free 5; have HZG := Lib.hid hzG; clear hzG hbG))
              all_goals
                refine ‹∀ (a : Act) (w_1 : World), Code.wp Tryz.prog Code.ret (bodyPost Tryz.prog Tryz.f265 (SReadPost w s)) a w_1 → _› _ _ ?_
                go_wp2_with fail
                obtain ⟨q0, q1, q2, q3, q4, q5⟩ := (HZG.out.put yF vm vd vh vn vs).at
                refine bodyPost_ret (v := .tuple #[.agg #[.int .i64 yF, .int .i64 vm, .int .i64 vd, .int .i64 vh, .int .i64 vn, .int .i64 vs], .bool (okB ⟨yF, vm, vd, vh, vn, vs⟩)]) (by simp [results, Tryz.results265, go_sem, q0, q1, q2, q3, q4, q5]) rfl ?_
                exact sread_ok HDE.out (Blk.putBelow HEG.out (Nat.le_refl _) _ _ _ _ _ _) (by rfl)
      | false =>
        have HI7 := Lib.hid h7
        clear h7 hz
        cases h0 : inB vy 0 69 with
        | true =>
          have HI0 := Lib.hid h0
          have hb0 := in_iff.1 h0
          have HFY : Hid (fullY vy = vy + 2000) := by show fullY vy = _; unfold fullY; rw [if_pos (by omega)]
          clear h0
          go_wp2_with fail
          refine (in_any _ _ _ _).mono ?_
          rintro e w' ⟨rfl, rfl⟩
          rw [HI7.out]
          go_wp2_with fail
          refine (in_any _ _ _ _).mono ?_
          rintro e w' ⟨rfl, rfl⟩
          rw [HI0.out]
          go_wp2_with fail
          obtain ⟨wF, hWF⟩ : ∃ x, wr.setCell ⟨w.heap.size + 1, 0, none⟩ (.int .i64 (vy + 2000)) = x := ⟨_, rfl⟩
          obtain ⟨yF, hyF⟩ : ∃ y, vy + 2000 = y := ⟨_, rfl⟩
          have hBF : Blk wF (w.heap.size + 1) yF vm vd vh vn vs := by rw [← hWF, ← hyF]; exact HBL.out.year _
          have hZF : Blk wF w.heap.size 0 0 0 0 0 0 := by rw [← hWF]; exact HZ.out.other (by omega)
          have hEF : Below w.heap.size w wF := by rw [← hWF]; exact HB.out.setCell (Nat.le_succ _) _
          rw [hyF] at HFY
          rw [hWF]
          clear hWF hyF
          rw [HFY.out] at HDE
          clear c0 c1 c2 c3 c4 c5 f0 HBL HZ HB HFY hy0 hy9
          have HBF := Lib.hid hBF
          have HZF := Lib.hid hZF
          have HEF := Lib.hid hEF
          obtain ⟨c0, c1, c2, c3, c4, c5⟩ := hBF.at
          have f0 := hZF.free 0
          have f1 := hZF.free 1
          have f2 := hZF.free 2
          have f3 := hZF.free 3
          have f4 := hZF.free 4
          have f5 := hZF.free 5
          obtain ⟨r0, r1, r2, r3, r4, r5⟩ := hZF.at
          clear hBF hZF hEF
          cases T with
          | false =>
            have HN := Lib.hid (show dateR (readL s.data.toList) = none from HDE.out)
            go_region
            refine ‹∀ (a : Act) (w_1 : World), Code.wp Tryz.prog Code.ret (bodyPost Tryz.prog Tryz.f265 (SReadPost w s)) a w_1 → _› _ _ ?_
            go_wp2_with fail
            obtain ⟨q0, q1, q2, q3, q4, q5⟩ := (HZF.out.put yF vm vd vh vn vs).at
            refine bodyPost_ret (v := .tuple #[.agg #[.int .i64 yF, .int .i64 vm, .int .i64 vd, .int .i64 vh, .int .i64 vn, .int .i64 vs], .bool false]) (by simp [results, Tryz.results265, go_sem, q0, q1, q2, q3, q4, q5]) rfl ?_
            exact sread_no HN.out (Blk.putBelow HEF.out (Nat.le_refl _) _ _ _ _ _ _).drew
          | true =>
            cases D with
            | false =>
              have HN := Lib.hid (show dateR (readL s.data.toList) = none from HDE.out)
              go_region
              refine ‹∀ (a : Act) (w_1 : World), Code.wp Tryz.prog Code.ret (bodyPost Tryz.prog Tryz.f265 (SReadPost w s)) a w_1 → _› _ _ ?_
              go_wp2_with fail
              obtain ⟨q0, q1, q2, q3, q4, q5⟩ := (HZF.out.put yF vm vd vh vn vs).at
              refine bodyPost_ret (v := .tuple #[.agg #[.int .i64 yF, .int .i64 vm, .int .i64 vd, .int .i64 vh, .int .i64 vn, .int .i64 vs], .bool false]) (by simp [results, Tryz.results265, go_sem, q0, q1, q2, q3, q4, q5]) rfl ?_
              exact sread_no HN.out (Blk.putBelow HEF.out (Nat.le_refl _) _ _ _ _ _ _).drew
            | true =>
              cases Y with
              | false =>
                have HN := Lib.hid (show dateR (readL s.data.toList) = none from HDE.out)
                go_region
                refine ‹∀ (a : Act) (w_1 : World), Code.wp Tryz.prog Code.ret (bodyPost Tryz.prog Tryz.f265 (SReadPost w s)) a w_1 → _› _ _ ?_
                go_wp2_with fail
                obtain ⟨q0, q1, q2, q3, q4, q5⟩ := (HZF.out.put yF vm vd vh vn vs).at
                refine bodyPost_ret (v := .tuple #[.agg #[.int .i64 yF, .int .i64 vm, .int .i64 vd, .int .i64 vh, .int .i64 vn, .int .i64 vs], .bool false]) (by simp [results, Tryz.results265, go_sem, q0, q1, q2, q3, q4, q5]) rfl ?_
                exact sread_no HN.out (Blk.putBelow HEF.out (Nat.le_refl _) _ _ _ _ _ _).drew
              | true =>
                go_region_with (first | (go_at_call 321; refine (specOK yF vm vd vh vn vs _).mono ?_; rintro e w' ⟨rfl, hb⟩; have hbl := below_drew_step hb; have hzG := HZF.out.below hbl; have HEG := Lib.hid (HEF.out.trans (hbl.mono HEF.out.size)); have hbG := HBF.out.below hbl; clear hb hbl; obtain ⟨c0', c1', c2', c3', c4', c5'⟩ := hbG.at; obtain ⟨r0', r1', r2', r3', r4', r5'⟩ := hzG.at; have f0' := hzG.free 0; have f1' := hzG.free 1; have f2' := hzG.free 2; have f3' := hzG.free 3; have f4' := hzG.free 4; have f5' := hzG.free 5; have HZG := Lib.hid hzG; clear hzG hbG))
                all_goals
                  refine ‹∀ (a : Act) (w_1 : World), Code.wp Tryz.prog Code.ret (bodyPost Tryz.prog Tryz.f265 (SReadPost w s)) a w_1 → _› _ _ ?_
                  go_wp2_with fail
                  obtain ⟨q0, q1, q2, q3, q4, q5⟩ := (HZG.out.put yF vm vd vh vn vs).at
                  refine bodyPost_ret (v := .tuple #[.agg #[.int .i64 yF, .int .i64 vm, .int .i64 vd, .int .i64 vh, .int .i64 vn, .int .i64 vs], .bool (okB ⟨yF, vm, vd, vh, vn, vs⟩)]) (by simp [results, Tryz.results265, go_sem, q0, q1, q2, q3, q4, q5]) rfl ?_
                  exact sread_ok HDE.out (Blk.putBelow HEG.out (Nat.le_refl _) _ _ _ _ _ _) (by rfl)
        | false =>
          have HI0 := Lib.hid h0
          have HFY : Hid (fullY vy = vy) := by
            show fullY vy = _
            have h1 := in_not HI7.out
            have h2 := in_not h0
            unfold fullY
            rw [if_neg (by omega), if_neg (by omega)]
          clear h0
          go_wp2_with fail
          refine (in_any _ _ _ _).mono ?_
          rintro e w' ⟨rfl, rfl⟩
          rw [HI7.out]
          go_wp2_with fail
          refine (in_any _ _ _ _).mono ?_
          rintro e w' ⟨rfl, rfl⟩
          rw [HI0.out]
          go_wp2_with fail
          obtain ⟨wF, rfl⟩ : ∃ x, x = wr := ⟨_, rfl⟩
          obtain ⟨yF, rfl⟩ : ∃ y, y = vy := ⟨_, rfl⟩
          have hBF : Blk wF (w.heap.size + 1) yF vm vd vh vn vs := HBL.out
          have hZF : Blk wF w.heap.size 0 0 0 0 0 0 := HZ.out
          have hEF : Below w.heap.size w wF := HB.out
          rw [HFY.out] at HDE
          clear c0 c1 c2 c3 c4 c5 f0 HBL HZ HB HFY hy0 hy9
          have HBF := Lib.hid hBF
          have HZF := Lib.hid hZF
          have HEF := Lib.hid hEF
          obtain ⟨c0, c1, c2, c3, c4, c5⟩ := hBF.at
          have f0 := hZF.free 0
          have f1 := hZF.free 1
          have f2 := hZF.free 2
          have f3 := hZF.free 3
          have f4 := hZF.free 4
          have f5 := hZF.free 5
          obtain ⟨r0, r1, r2, r3, r4, r5⟩ := hZF.at
          clear hBF hZF hEF
          cases T with
          | false =>
            have HN := Lib.hid (show dateR (readL s.data.toList) = none from HDE.out)
            go_region
            refine ‹∀ (a : Act) (w_1 : World), Code.wp Tryz.prog Code.ret (bodyPost Tryz.prog Tryz.f265 (SReadPost w s)) a w_1 → _› _ _ ?_
            go_wp2_with fail
            obtain ⟨q0, q1, q2, q3, q4, q5⟩ := (HZF.out.put yF vm vd vh vn vs).at
            refine bodyPost_ret (v := .tuple #[.agg #[.int .i64 yF, .int .i64 vm, .int .i64 vd, .int .i64 vh, .int .i64 vn, .int .i64 vs], .bool false]) (by simp [results, Tryz.results265, go_sem, q0, q1, q2, q3, q4, q5]) rfl ?_
            exact sread_no HN.out (Blk.putBelow HEF.out (Nat.le_refl _) _ _ _ _ _ _).drew
          | true =>
            cases D with
            | false =>
              have HN := Lib.hid (show dateR (readL s.data.toList) = none from HDE.out)
              go_region
              refine ‹∀ (a : Act) (w_1 : World), Code.wp Tryz.prog Code.ret (bodyPost Tryz.prog Tryz.f265 (SReadPost w s)) a w_1 → _› _ _ ?_
              go_wp2_with fail
              obtain ⟨q0, q1, q2, q3, q4, q5⟩ := (HZF.out.put yF vm vd vh vn vs).at
              refine bodyPost_ret (v := .tuple #[.agg #[.int .i64 yF, .int .i64 vm, .int .i64 vd, .int .i64 vh, .int .i64 vn, .int .i64 vs], .bool false]) (by simp [results, Tryz.results265, go_sem, q0, q1, q2, q3, q4, q5]) rfl ?_
              exact sread_no HN.out (Blk.putBelow HEF.out (Nat.le_refl _) _ _ _ _ _ _).drew
            | true =>
              cases Y with
              | false =>
                have HN := Lib.hid (show dateR (readL s.data.toList) = none from HDE.out)
                go_region
                refine ‹∀ (a : Act) (w_1 : World), Code.wp Tryz.prog Code.ret (bodyPost Tryz.prog Tryz.f265 (SReadPost w s)) a w_1 → _› _ _ ?_
                go_wp2_with fail
                obtain ⟨q0, q1, q2, q3, q4, q5⟩ := (HZF.out.put yF vm vd vh vn vs).at
                refine bodyPost_ret (v := .tuple #[.agg #[.int .i64 yF, .int .i64 vm, .int .i64 vd, .int .i64 vh, .int .i64 vn, .int .i64 vs], .bool false]) (by simp [results, Tryz.results265, go_sem, q0, q1, q2, q3, q4, q5]) rfl ?_
                exact sread_no HN.out (Blk.putBelow HEF.out (Nat.le_refl _) _ _ _ _ _ _).drew
              | true =>
                go_region_with (first | (go_at_call 321; refine (specOK yF vm vd vh vn vs _).mono ?_; rintro e w' ⟨rfl, hb⟩; have hbl := below_drew_step hb; have hzG := HZF.out.below hbl; have HEG := Lib.hid (HEF.out.trans (hbl.mono HEF.out.size)); have hbG := HBF.out.below hbl; clear hb hbl; obtain ⟨c0', c1', c2', c3', c4', c5'⟩ := hbG.at; obtain ⟨r0', r1', r2', r3', r4', r5'⟩ := hzG.at; have f0' := hzG.free 0; have f1' := hzG.free 1; have f2' := hzG.free 2; have f3' := hzG.free 3; have f4' := hzG.free 4; have f5' := hzG.free 5; have HZG := Lib.hid hzG; clear hzG hbG))
                all_goals
                  refine ‹∀ (a : Act) (w_1 : World), Code.wp Tryz.prog Code.ret (bodyPost Tryz.prog Tryz.f265 (SReadPost w s)) a w_1 → _› _ _ ?_
                  go_wp2_with fail
                  obtain ⟨q0, q1, q2, q3, q4, q5⟩ := (HZG.out.put yF vm vd vh vn vs).at
                  refine bodyPost_ret (v := .tuple #[.agg #[.int .i64 yF, .int .i64 vm, .int .i64 vd, .int .i64 vh, .int .i64 vn, .int .i64 vs], .bool (okB ⟨yF, vm, vd, vh, vn, vs⟩)]) (by simp [results, Tryz.results265, go_sem, q0, q1, q2, q3, q4, q5]) rfl ?_
                  exact sread_ok HDE.out (Blk.putBelow HEG.out (Nat.le_refl _) _ _ _ _ _ _) (by rfl)
end Go.Proofs.YtpdonghdnaehhaaGreatDoor
