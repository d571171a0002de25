/- The codes' words: what CodeWord and CodeOf of the program and of the model answer; both laws' walks. No condition of its own. -/
import Derived.Test.YtijhaljmccfcoaaDoorBase
import Derived.Laws.Rows
namespace Go.Proofs.YtijhaljmccfcoaaDoor
open Go.ChangeShapes Go.WideShapes Go.ChangeAt Go.WideMaps Go.WideElems Go.RowKit
def words : List (List UInt8) := [[111, 107], [98, 97, 100], [108, 111, 110, 103], [102, 111, 114, 109], [114, 97, 110, 103, 101], [110, 111, 110, 101], [109, 97, 110, 121], [102, 117, 108, 108], [115, 105, 122, 101], [107, 105, 110, 100], [100, 97, 116, 101], [115, 117, 102, 102, 105, 120], [100, 111, 109, 97, 105, 110], [115, 101, 99, 117, 114, 101], [104, 116, 116, 112], [115, 105, 116, 101], [112, 114, 101, 102, 105, 120], [111, 114, 100, 101, 114], [115, 97, 109, 101]]
def word (k : Nat) : ByteArray := ⟨(words.getD k []).toArray⟩
theorem words_at (k : Nat) (h : k < (words.map fun z => Value.string ⟨z.toArray⟩).length) : Ending.returned ((words.map fun z => Value.string ⟨z.toArray⟩)[k]'h) = Ending.returned (.string (word k)) := by
  have : k < words.length := by simpa using h
  simp [word, List.getD, this]
theorem spec_in (k : Nat) (w : World) (hk : k < 19) : Calls Tryd.prog 28 #[.int .i64 k] w fun e w' => e = .returned (.string (word k)) ∧ Below w.heap.size w w' := by
  go_enter Tryd.func28, Tryd.ntmps28
  go_wp2
  go_ret
  exact ⟨words_at k hk, (Below.refl _ _).alloc (Nat.le_refl _) _⟩
theorem impl_in (k : Nat) (w : World) (hk : k < 19) (hc : w.cell? ⟨0, k, none⟩ = some (.string (word k))) : Calls Tryd.prog 29 #[.int .i64 k] w fun e w' => e = .returned (.string (word k)) ∧ w = w' := by
  go_enter Tryd.func29, Tryd.ntmps29
  go_wp2
  go_ret
  exact ⟨rfl, rfl⟩
theorem impl_out (n : Int) (w : World) (hn : n < 0 ∨ 19 ≤ n) : Calls Tryd.prog 29 #[.int .i64 n] w fun e w' => e = .returned (.string ⟨#[]⟩) ∧ w = w' := by
  rcases hn with h | h
  all_goals
    go_enter Tryd.func29, Tryd.ntmps29
    go_wp2
    all_goals go_ret
    all_goals exact ⟨rfl, rfl⟩
theorem spec_out (n : Int) (w : World) (hn : n < 0 ∨ 19 ≤ n) : Calls Tryd.prog 28 #[.int .i64 n] w fun e w' => e = .returned (.string ⟨#[]⟩) ∧ Below w.heap.size w w' := by
  rcases hn with h | h
  all_goals
    go_enter Tryd.func28, Tryd.ntmps28
    go_wp2
    all_goals go_ret
    all_goals exact ⟨rfl, (Below.refl _ _).alloc (Nat.le_refl _) _⟩
def CodeIs (s : ByteArray) (r : Int) : Prop := (∃ k : Nat, k < 19 ∧ r = k ∧ word k = s ∧ ∀ j, j < k → word j ≠ s) ∨ (r = -1 ∧ ∀ j, j < 19 → word j ≠ s)
theorem CodeIs.unique {s : ByteArray} {a b : Int} (h : CodeIs s a) (h' : CodeIs s b) : a = b := by
  rcases h with ⟨k, hk, rfl, e, n⟩ | ⟨rfl, n⟩ <;> rcases h' with ⟨k', hk', rfl, e', n'⟩ | ⟨rfl, n'⟩
  · rcases Nat.lt_trichotomy k k' with h | h | h
    · exact absurd e (n' k h)
    · rw [h]
    · exact absurd e' (n k' h)
  · exact absurd e (n' k hk)
  · exact absurd e' (n k' hk')
  · rfl
theorem ne_step {s : ByteArray} {k : Nat} (h : ∀ j, j < k → word j ≠ s) (h' : word k ≠ s) : ∀ j, j < k + 1 → word j ≠ s := by
  intro j hj
  rcases Nat.lt_succ_iff_lt_or_eq.1 hj with h1 | rfl
  · exact h j h1
  · exact h'
theorem specOf (s : ByteArray) (w : World) : Calls Tryd.prog 30 #[.string s] w fun e w' => ∃ r, e = .returned (.int .i64 r) ∧ CodeIs s r ∧ Below w.heap.size w w' := by
  go_enter Tryd.func30, Tryd.ntmps30
  go_wp2
  go_loopw [3] (fun i wr => ∃ k : Nat, k ≤ 19 ∧ i = .int .i64 k ∧ (∀ j, j < k → word j ≠ s) ∧ Below w.heap.size w wr) (fun i _ => 19 - (intOf i).toNat)
  case atStart => exact ⟨0, by omega, rfl, by omega, Below.refl _ _⟩
  case round =>
    obtain ⟨k, hk, rfl, hne, hb⟩ := hrel
    have HN := Lib.hid hne
    clear hne
    by_cases hlt : k < 19
    · go_wp2_with (go_at_call 28; refine (spec_in _ _ hlt).mono ?_; rintro e w' ⟨rfl, hb1⟩)
      · have he : ((word k).toList == s.toList) = true := by assumption
        go_ret
        exact ⟨_, rfl, .inl ⟨k, hlt, rfl, seq_of he, HN.out⟩, hb.trans (hb1.mono hb.size)⟩
      · have he : ((word k).toList == s.toList) = false := by assumption
        go_roundw
        case rel => exact ⟨k + 1, by omega, by go_num, ne_step HN.out (sne_of he), hb.trans (hb1.mono hb.size)⟩
        case measure => simp [intOf]; omega
    · go_wp2
      go_ret
      obtain rfl : k = 19 := by omega
      exact ⟨_, rfl, .inr ⟨rfl, HN.out⟩, hb⟩
theorem implOf (s : ByteArray) (w : World) (t : TypeId) (fr : Nat × Nat) (hg : w.heap[0]? = some (.cells (words.map fun z => Value.string ⟨z.toArray⟩).toArray t fr)) : Calls Tryd.prog 31 #[.string s] w fun e w' => ∃ r, e = .returned (.int .i64 r) ∧ CodeIs s r ∧ w = w' := by
  go_enter Tryd.func31, Tryd.ntmps31
  go_wp2_with (refine wpList_load_row rfl 46 (.global 0) rfl 0 rfl _ _ _ _ hg Tryd.underlying46 rfl (by kernel_rfl) ?_)
  go_loop [6] (fun i => ∃ k : Nat, k ≤ 19 ∧ i = .int .i64 k ∧ (∀ j, j < k → word j ≠ s)) (fun i => 19 - (intOf i).toNat)
  case atStart => exact ⟨0, by omega, rfl, by omega⟩
  case round =>
    obtain ⟨k, hk, rfl, hne⟩ := hrel
    have HN := Lib.hid hne
    clear hne
    by_cases hlt : k < 19
    · have hix : ∀ w, (Instr.index 46 (.agg (words.map fun z => Value.string ⟨z.toArray⟩).toArray) (.int .i64 k)).run Tryd.prog w = .ok (.string (word k)) w :=
        fun w => run_index_array_in w 46 9 19 _ .i64 k _ Tryd.underlying46 hlt (fun _ => by kernel_rfl) (fun _ => by kernel_rfl) (by have : k < words.length := hlt; simp [word, List.getD, this])
      go_wp2
      · have he : ((word k).toList == s.toList) = true := by assumption
        go_ret
        exact ⟨_, rfl, .inl ⟨k, hlt, rfl, seq_of he, HN.out⟩, rfl⟩
      · have he : ((word k).toList == s.toList) = false := by assumption
        go_round
        case rel => exact ⟨k + 1, by omega, by go_num, ne_step HN.out (sne_of he)⟩
        case measure => simp [intOf]; omega
    · go_wp2
      go_ret
      obtain rfl : k = 19 := by omega
      exact ⟨_, rfl, .inr ⟨rfl, HN.out⟩, rfl⟩
theorem gWords : Tryd.prog.globalNamed "loop.example/g00803/impl.codeWords" = some 0 := by kernel_rfl
theorem tWords : (Tryd.prog.globals[0]?).map (·.type) = some 46 := by kernel_rfl
theorem texts_laid {W : World} {rest : List (String × DataW Unit)} (hp : ((("loop.example/g00803/impl.codeWords", Rows.laid_loop_example_g00803_impl_codeWords) :: rest).all fun x => x.2.handleName?.isNone) = true) (h : laidMetH Tryd.prog (("loop.example/g00803/impl.codeWords", Rows.laid_loop_example_g00803_impl_codeWords) :: rest) W) : TextsAt Tryd.prog W "loop.example/g00803/impl.codeWords" words := by
  rw [MakeChecks.laidMetH_plain _ _ _ hp] at h
  exact texts_of_head (zs := words) (rest := rest) gWords tWords Tryd.underlying46 Tryd.underlying9 (by kernel_rfl) (by kernel_rfl) h
theorem walk_FnExactCodeWord (W : World) (n : Int) (_ : (Lit.int .i64 n).wf = true) (hL : laidMetH Tryd.prog Rows.fnExactCodeWordRow.laid W) (_ : W.ShapedOpen Tryd.prog) :
    Calls Tryd.prog 5 #[.int .i64 n] W fun e w' => e = .returned (.bool true) ∧ Below W.heap.size W w' := by
  have hT := texts_laid (rest := []) (by kernel_rfl) hL
  by_cases hn : n < 0 ∨ 19 ≤ n
  · clear hL hT
    go_enter Tryd.func5, Tryd.ntmps5
    go_wp2_with (first
      | (go_at_call 28; refine (spec_out _ _ hn).mono ?_; rintro e w' ⟨rfl, hb⟩)
      | (go_at_call 29; refine (impl_out _ _ hn).mono ?_; rintro e w' ⟨rfl, rfl⟩))
    go_ret
    exact ⟨rfl, hb⟩
  · obtain ⟨k, rfl⟩ : ∃ k : Nat, n = k := ⟨n.toNat, by omega⟩
    have hk : k < 19 := by omega
    have hc : W.cell? ⟨0, k, none⟩ = some (.string (word k)) := hT.cell gWords k hk
    clear hL hT hn
    have hs : ((word k).toList == (word k).toList) = true := by simp
    go_enter Tryd.func5, Tryd.ntmps5
    go_wp2_with (first
      | (go_at_call 28; refine (spec_in _ _ hk).mono ?_; rintro e w' ⟨rfl, hb⟩)
      | (go_at_call 29; refine (impl_in _ _ hk (cell_kept hb hc)).mono ?_; rintro e w' ⟨rfl, rfl⟩))
    go_ret
    exact ⟨rfl, hb⟩
theorem row_of_texts {P : Program} {w : World} {name : String} {zs : List (List UInt8)} {g : Nat} (hg : P.globalNamed name = some g) (h : TextsAt P w name zs) : ∃ t fr, w.heap[g]? = some (.cells (zs.map fun z => Value.string ⟨z.toArray⟩).toArray t fr) := by
  unfold TextsAt World.var? at h
  rw [hg, Option.bind_some] at h
  split at h
  · rename_i cs t fr hh
    cases h
    exact ⟨t, fr, hh⟩
  · cases h
theorem walk_FnExactCodeOf (W : World) (s : ByteArray) (hs : s.size ≤ maxLen) (hL : laidMetH Tryd.prog Rows.fnExactCodeOfRow.laid W) (_ : W.ShapedOpen Tryd.prog) :
    Calls Tryd.prog 6 #[.string s] W fun e w' => e = .returned (.bool true) ∧ Below W.heap.size W w' := by
  obtain ⟨t, fr, hg⟩ := row_of_texts gWords (texts_laid (rest := []) (by kernel_rfl) hL)
  have HG := Lib.hid hg
  clear hL hg
  unfold maxLen at hs
  by_cases hl : (s.size : Int) ≤ 1048576
  · go_enter Tryd.func6, Tryd.ntmps6
    go_wp2_with (first
      | (go_at_call 30; refine (specOf _ _).mono ?_; rintro e w' ⟨r, rfl, hr, hb⟩)
      | (go_at_call 31; refine (implOf _ _ t fr ((hb.block 0 (Array.getElem?_eq_some_iff.1 HG.out).1).trans HG.out)).mono ?_; rintro e w' ⟨r', rfl, hr', rfl⟩; obtain rfl := CodeIs.unique hr hr'))
    go_ret
    exact ⟨rfl, hb⟩
  · go_enter Tryd.func6, Tryd.ntmps6
    go_wp2
    go_ret
    exact ⟨rfl, Below.refl _ _⟩
end Go.Proofs.YtijhaljmccfcoaaDoor
