/- DateText whole; the walk of the law on DateText. No condition of its own. -/
import Derived.Test.YtpdonghdnaehhaaGreatDoorZSpecText
import Derived.Test.YtpdonghdnaehhaaGreatDoorZGh
import Derived.Stop.LaidErr
namespace Go.Proofs.YtpdonghdnaehhaaGreatDoor
open Go.ChangeShapes Go.WideShapes Go.ChangeAt Go.WideMaps Go.WideElems Go.RowKit

/-- The names lie as the program's text lays them. -/
def NamesAt (w : World) : Prop := TextsAt Tryz.prog w "loop.example/g00803/impl.dayNames" dnames ∧ TextsAt Tryz.prog w "loop.example/g00803/impl.monthNames" mnames ∧ PowAt w
theorem NamesAt.below {w w' : World} (h : NamesAt w) (hb : Below w.heap.size w w') : NamesAt w' := ⟨var_keep hb h.1, var_keep hb h.2.1, h.2.2.below hb⟩
theorem gDay : Tryz.prog.globalNamed "loop.example/g00803/impl.dayNames" = some 1 := by kernel_rfl
theorem tDay : (Tryz.prog.globals[1]?).map (·.type) = some 204 := by kernel_rfl
theorem gMon : Tryz.prog.globalNamed "loop.example/g00803/impl.monthNames" = some 2 := by kernel_rfl
theorem tMon : (Tryz.prog.globals[2]?).map (·.type) = some 205 := by kernel_rfl
def textV (a : Dt) : ByteArray := if okB a then ⟨(txtL (dnam (weekN a)).data.toList (mnam a.m).data.toList a.y a.d a.h a.n a.s).toArray⟩ else ⟨#[]⟩
theorem year_size {y : Int} (h0 : 0 ≤ y) (h1 : y ≤ 9999) : (⟨(Lib.itoa y).toArray⟩ : ByteArray).size ≤ 100 := by
  obtain ⟨k, rfl⟩ : ∃ k : Nat, y = k := ⟨y.toNat, by omega⟩
  have := digT_size 3 k (by omega)
  unfold digT at this
  unfold Lib.itoa
  rw [if_neg (by omega)]
  simp only [Int.toNat_natCast]
  omega
theorem week_nat (a : Dt) : ∃ kk : Nat, weekN a = kk ∧ kk < 7 := ⟨(weekN a).toNat, by unfold weekN; omega, by unfold weekN; omega⟩
theorem implText (y m d h n s : Int) (w : World) (hN : NamesAt w) : Calls Tryz.prog 154 #[.agg #[.int .i64 y, .int .i64 m, .int .i64 d, .int .i64 h, .int .i64 n, .int .i64 s]] w fun e w' => e = .returned (.tuple #[.string (textV ⟨y, m, d, h, n, s⟩), .int .i64 (okC ⟨y, m, d, h, n, s⟩)]) ∧ Below w.heap.size w w' := by
  cases hok : okB ⟨y, m, d, h, n, s⟩ with
  | true =>
    obtain ⟨⟨hy1, hy2⟩, ⟨hm1, hm2⟩, _⟩ := (ok_iff _).1 hok
    simp only at hy1 hy2 hm1 hm2
    obtain ⟨kk, hk, hk7⟩ := week_nat ⟨y, m, d, h, n, s⟩
    obtain ⟨mm, rfl⟩ : ∃ mm : Nat, m = mm := ⟨m.toNat, by omega⟩
    have hcD := hN.1.cell gDay kk hk7
    have hcM := hN.2.1.cell gMon mm (show mm < 13 by omega)
    refine (implTextIn y mm d h n s w kk mm (dnam kk) (mnam mm) (dnam_size hk7) (mnam_size (by omega) (by omega)) _ rfl (year_size (by omega) hy2) hok (by rw [weekV, if_pos hok, hk]) rfl hcD hcM hN.2.2).mono ?_
    rintro e w' ⟨rfl, hb⟩
    refine ⟨?_, hb⟩
    rw [textV, if_pos hok, hk, okC, if_pos hok]
  | false =>
    have hc : okC ⟨y, m, d, h, n, s⟩ = 1 := by simp [okC, hok]
    have ht : textV ⟨y, m, d, h, n, s⟩ = ⟨#[]⟩ := by simp [textV, hok]
    have HC := Lib.hid hc
    have HT := Lib.hid ht
    clear hc ht hok
    go_enter Tryz.func154, Tryz.ntmps154
    go_wp2_with fail
    refine (implWeek y m d h n s _).mono ?_
    rintro e w1 ⟨rfl, hb⟩
    rw [HC.out]
    have HB := Lib.hid (((Below.refl w.heap.size w).alloc (Nat.le_refl _) _).trans (hb.mono (by simp)))
    clear hb
    go_wp2_with fail
    go_ret2
    exact ⟨by rw [HT.out, HC.out]; rfl, HB.out⟩
theorem pow_list2 : Lib.pow10Tab = [1, 10, 100, 1000, 10000, 100000, 1000000, 10000000, 100000000, 1000000000, 10000000000, 100000000000, 1000000000000, 10000000000000, 100000000000000, 1000000000000000, 10000000000000000, 100000000000000000, 1000000000000000000, 10000000000000000000] := by decide +kernel
theorem pow_laid {W : World} {r1 : List (String × DataW Unit)} (h1 : laidMet Tryz.prog (("internal/strconv.uint64pow10", Rows.laid_internal_strconv_uint64pow10) :: r1) W) : PowAt W := by
  unfold PowAt
  rw [pow_list2]
  exact Lib.tabIs_of_head (zs := [1, 10, 100, 1000, 10000, 100000, 1000000, 10000000, 100000000, 1000000000, 10000000000, 100000000000, 1000000000000, 10000000000000, 100000000000000, 1000000000000000, 10000000000000000, 100000000000000000, 1000000000000000000, 10000000000000000000]) (k := .u64) (rest := r1) (g := 4) (t := 266) (by kernel_rfl) (by kernel_rfl) Tryz.underlying266 Tryz.underlying241 (by kernel_rfl) (by kernel_rfl) h1
theorem days_laid {W : World} {rest : List (String × DataW Unit)} (h : laidMet Tryz.prog (("loop.example/g00803/impl.dayNames", Rows.laid_loop_example_g00803_impl_dayNames) :: rest) W) : TextsAt Tryz.prog W "loop.example/g00803/impl.dayNames" dnames :=
  texts_of_head (zs := dnames) (rest := rest) gDay tDay Tryz.underlying204 Tryz.underlying9 (by kernel_rfl) (by kernel_rfl) h
theorem mons_laid {W : World} {rest : List (String × DataW Unit)} (h : laidMet Tryz.prog (("loop.example/g00803/impl.monthNames", Rows.laid_loop_example_g00803_impl_monthNames) :: rest) W) : TextsAt Tryz.prog W "loop.example/g00803/impl.monthNames" mnames :=
  texts_of_head (zs := mnames) (rest := rest) gMon tMon Tryz.underlying205 Tryz.underlying9 (by kernel_rfl) (by kernel_rfl) h
end Go.Proofs.YtpdonghdnaehhaaGreatDoor
