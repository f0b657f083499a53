/- Chapter 4: frames read, tags, by the abstract machine. -/
import Derived.Test.YtioejbgdhmiiiaaAM21
import Derived.Test.YtioejbgdhmiiiaaEthTotal
import Derived.Test.YtioejbgdhmiiiaaGetsAnySpec
import Derived.Test.YtioejbgdhmiiiaaGet32Impl
namespace Go.Proofs.Ytioejbgdhmiiiaa
open Go.RowKit AM
set_option linter.unusedVariables false
set_option linter.unusedSimpArgs false
theorem ty4_0 : sizeL Try.prog 23 = some (5, true) := by kernel_rfl
theorem ty4_1 : fieldsL Try.prog 23 = some [(0, 1, false), (1, 1, false), (2, 1, false), (3, 1, false), (4, 1, false)] := by kernel_rfl
theorem ty4_2 : zeroL Try.prog 23 = some [.int .i64 0, .int .i64 0, .int .i64 0, .int .i64 0, .string .empty] := by kernel_rfl
theorem ty4_3 : bytesL Try.prog 23 = some 48 := by kernel_rfl
theorem ty4_4 : sizeL Try.prog 3 = some (1, false) := by kernel_rfl
theorem ty4_5 : zeroL Try.prog 3 = some [.int .i64 0] := by kernel_rfl
theorem ty4_6 : bytesL Try.prog 3 = some 8 := by kernel_rfl
theorem ty4_7 : Try.prog.underlying 3 = some (.int .i64) := by kernel_rfl
theorem ty4_8 : sizeL Try.prog 9 = some (1, false) := by kernel_rfl
theorem ty4_9 : zeroL Try.prog 9 = some [.string .empty] := by kernel_rfl
theorem ty4_10 : bytesL Try.prog 9 = some 16 := by kernel_rfl
theorem ty4_11 : Try.prog.underlying 9 = some (.string) := by kernel_rfl
theorem ty4_12 : sizeL Try.prog 4 = some (1, false) := by kernel_rfl
theorem ty4_13 : zeroL Try.prog 4 = some [.bool false] := by kernel_rfl
theorem ty4_14 : bytesL Try.prog 4 = some 1 := by kernel_rfl
theorem ty4_15 : Try.prog.underlying 4 = some (.bool) := by kernel_rfl

theorem am_impl_in (x lo hi : Int) : Pure Try.prog true 49 [I x, I lo, I hi] (Bo (decide (lo ≤ x ∧ x ≤ hi))) :=
  pure_of_calls (by kernel_rfl) rfl rfl (fun w => (impl_in x lo hi w).mono fun _ _ h => ⟨h.1, h.2 ▸ Below.refl _ _⟩)

theorem am_impl_get16 (s : ByteArray) (p : Int) (hs : s.size ≤ maxLen) (hp : -9223372036854775808 ≤ p ∧ p ≤ 9223372036854775807) : Pure Try.prog true 82 [Sg s, I p] (I (get16 s p)) :=
  pure_of_calls (by kernel_rfl) rfl rfl (fun w => impl_get16_any s p w hs hp)

theorem am_impl_get32 (s : ByteArray) (p : Int) (hs : s.size ≤ maxLen) (hp : -9223372036854775808 ≤ p ∧ p ≤ 9223372036854775807) : Pure Try.prog true 96 [Sg s, I p] (I (get32 s p)) :=
  pure_of_calls (by kernel_rfl) rfl rfl (fun w => impl_get32_any s p w hs hp)

theorem am_impl_ethok (e : EthM) : Pure Try.prog true 36 [.a (.agg [cI e.dst, cI e.src, cI e.vlan, cI e.type, cS e.body])] (Bo (decide e.Ok)) :=
  pure_of_calls (by kernel_rfl) rfl rfl (fun w => impl_ethok e w)

theorem am_impl_ethok_yes {e : EthM} (hk : e.Ok) : Pure Try.prog true 36 [.a (.agg [cI e.dst, cI e.src, cI e.vlan, cI e.type, cS e.body])] (Bo true) := by have h := am_impl_ethok e; rw [decide_eq_true hk] at h; exact h

theorem am_impl_ethok_no {e : EthM} (hk : ¬ e.Ok) : Pure Try.prog true 36 [.a (.agg [cI e.dst, cI e.src, cI e.vlan, cI e.type, cS e.body])] (Bo false) := by have h := am_impl_ethok e; rw [decide_eq_false hk] at h; exact h

theorem am_impl_build (e : EthM) : Pure Try.prog true 35 [.a (.agg [cI e.dst, cI e.src, cI e.vlan, cI e.type, cS e.body])] (.tup [.one (cS e.built), .one (cB (decide e.Ok))]) :=
  pure_of_calls (by kernel_rfl) rfl rfl (fun w => impl_build e w)

theorem am_spec_in (x lo hi : Int) : Pure Try.prog true 46 [I x, I lo, I hi] (Bo (decide (lo ≤ x ∧ x ≤ hi))) :=
  pure_of_calls (by kernel_rfl) rfl rfl (fun w => (spec_in x lo hi w).mono fun _ _ h => ⟨h.1, h.2 ▸ Below.refl _ _⟩)

theorem am_spec_get16 (s : ByteArray) (p : Int) (hs : s.size ≤ maxLen) (hp : -9223372036854775808 ≤ p ∧ p ≤ 9223372036854775807) : Pure Try.prog true 42 [Sg s, I p] (I (get16 s p)) :=
  pure_of_calls (by kernel_rfl) rfl rfl (fun w => spec_get16_any s p w hs hp)

theorem am_spec_get32 (s : ByteArray) (p : Int) (hs : s.size ≤ maxLen) (hp : -9223372036854775808 ≤ p ∧ p ≤ 9223372036854775807) : Pure Try.prog true 43 [Sg s, I p] (I (get32 s p)) :=
  pure_of_calls (by kernel_rfl) rfl rfl (fun w => spec_get32_any s p w hs hp)

theorem am_spec_ethok (e : EthM) : Pure Try.prog true 44 [.a (.agg [cI e.dst, cI e.src, cI e.vlan, cI e.type, cS e.body])] (Bo (decide e.Ok)) :=
  pure_of_calls (by kernel_rfl) rfl rfl (fun w => spec_ethok e w)

theorem am_spec_ethok_yes {e : EthM} (hk : e.Ok) : Pure Try.prog true 44 [.a (.agg [cI e.dst, cI e.src, cI e.vlan, cI e.type, cS e.body])] (Bo true) := by have h := am_spec_ethok e; rw [decide_eq_true hk] at h; exact h

theorem am_spec_ethok_no {e : EthM} (hk : ¬ e.Ok) : Pure Try.prog true 44 [.a (.agg [cI e.dst, cI e.src, cI e.vlan, cI e.type, cS e.body])] (Bo false) := by have h := am_spec_ethok e; rw [decide_eq_false hk] at h; exact h

theorem am_spec_build (e : EthM) : Pure Try.prog true 47 [.a (.agg [cI e.dst, cI e.src, cI e.vlan, cI e.type, cS e.body])] (.tup [.one (cS e.built), .one (cB (decide e.Ok))]) :=
  pure_of_calls (by kernel_rfl) rfl rfl (fun w => spec_build e w)

end Go.Proofs.Ytioejbgdhmiiiaa
