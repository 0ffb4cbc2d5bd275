/-
  counts(): that Exp2(10) is 1024 and Log2(8) is 3.
-/
import Derived.Test.YtbenjfipbeikmaaExp
namespace Go.Proofs.Ytbenjfipbeikmaa
open Go.RowKit

theorem lit_of_cn {k : FloatKind} {r v : Nat} (h : cn k r = v) (hv : isN k v = false ∧ v ≠ qnan k) : r = v := by
  unfold cn at h
  split at h
  · exact absurd h.symm hv.2
  · exact h

set_option maxRecDepth 100000 in
theorem exp10 (w : World) : Calls Try.prog 74 #[.float .f64 4621819117588971520] w fun e w' => e = .returned (.float .f64 4652218415073722368) ∧ ∃ n, w' = w.drewN n := by
  have o1 : FloatKind.f64.format.order 4621819117588971520 13864612927836782592 = some .gt := by decide +kernel
  have o2 : FloatKind.f64.format.order 4621819117588971520 4641240890982006784 = some .lt := by decide +kernel
  have a1 := fun w => fopv (show floatBits .add .f64 4621819117588971520 4602678819172646912 = some 4622100592565682176 by decide +kernel) w
  have a2 := fdrv (show floatBits .add .f64 4621819117588971520 4602678819172646912 = some 4622100592565682176 by decide +kernel)
  have f1 : floorB 4622100592565682176 = 4621819117588971520 := by decide +kernel
  have s1 := fun w => fopv (show floatBits .sub .f64 4621819117588971520 4621819117588971520 = some 0 by decide +kernel) w
  have s2 := fdrv (show floatBits .sub .f64 4621819117588971520 4621819117588971520 = some 0 by decide +kernel)
  have m1 := fun w => fopv (show floatBits .mul .f64 0 4604418534313441775 = some 0 by decide +kernel) w
  have m2 := fdrv (show floatBits .mul .f64 0 4604418534313441775 = some 0 by decide +kernel)
  have n1 := fun w => fopv (show floatBits .mul .f64 4607182418800017408 0 = some 0 by decide +kernel) w
  have n2 := fdrv (show floatBits .mul .f64 4607182418800017408 0 = some 0 by decide +kernel)
  have p1 := fun w => fopv (show floatBits .add .f64 4607182418800017408 0 = some 4607182418800017408 by decide +kernel) w
  have p2 := fdrv (show floatBits .add .f64 4607182418800017408 0 = some 4607182418800017408 by decide +kernel)
  have c1 : ∀ w, (convert 25 3 (.float .f64 4621819117588971520)).run Try.prog w = .ok (.int .i64 10) w := fun w => run_convert_float_int w 25 3 .f64 .i64 _ 10 (by kernel_rfl) (by kernel_rfl) (by decide +kernel)
  go_enter Try.func74, Try.ntmps74
  go_wp2_with (go_at_call 101; refine (floor_any _ (by decide +kernel) _).mono ?_; rintro e w' ⟨rfl, rfl⟩)
  go_loop [5, 6] (fun p k => p = .float .f64 4607182418800017408 ∧ ∃ j : Nat, j ≤ 14 ∧ k = .int .i64 j) (fun _ k => (intOf k).toNat)
  case atStart => exact ⟨rfl, 14, by omega, rfl⟩
  case round =>
    obtain ⟨rfl, j, hj, rfl⟩ := hrel
    by_cases hlt : 1 ≤ j
    · have q0 : floatBits .quo .f64 0 (floatOfInt .f64 (j : Int)) = some 0 := by
        have : ∀ i : Fin 15, 1 ≤ i.val → floatBits .quo .f64 0 (floatOfInt .f64 (i.val : Int)) = some 0 := by decide +kernel
        exact this ⟨j, by omega⟩ hlt
      have q1 := fun w => fopv q0 w
      have q2 := fdrv q0
      clear q0
      go_wp2
      go_round
      case rel => exact ⟨rfl, j - 1, by omega, by congr 2; omega⟩
      case measure => simp [intOf]; omega
    · obtain rfl : j = 0 := by omega
      go_wp2_with (go_at_call 14; refine (ldexp_1_10 _).mono ?_; rintro e w' ⟨r, n, rfl, hr, rfl⟩)
      go_ret
      exact ⟨by rw [lit_of_cn hr ⟨by decide +kernel, by decide⟩]; rfl, _, rfl⟩

set_option maxRecDepth 100000 in
theorem exp2_10 (w : World) : Calls Try.prog 40 #[.float .f32 1092616192] w fun e w' => e = .returned (.float .f32 1149239296) ∧ ∃ n, w' = w.drewN n := by
  have o1 : FloatKind.f32.format.order 1092616192 1092616192 = some .eq := by decide +kernel
  have o2 : FloatKind.f32.format.order 1092616192 2139095039 = some .lt := by decide +kernel
  have o3 : FloatKind.f32.format.order 1092616192 4286578687 = some .gt := by decide +kernel
  have c1 := fun w => fcvv (show floatToFloatBits .f32 1092616192 .f64 = some 4621819117588971520 by decide +kernel) w
  have c2 := fcdv (show floatToFloatBits .f32 1092616192 .f64 = some 4621819117588971520 by decide +kernel)
  have d1 := fun w => fcvv (show floatToFloatBits .f64 4652218415073722368 .f32 = some 1149239296 by decide +kernel) w
  have d2 := fcdv (show floatToFloatBits .f64 4652218415073722368 .f32 = some 1149239296 by decide +kernel)
  go_enter Try.func40, Try.ntmps40
  go_wp2_with (first | (go_at_call 74; refine (exp10 _).mono ?_; rintro e w' ⟨rfl, n, rfl⟩) | (go_at_call 73; go_in))
  go_ret
  exact ⟨rfl, _, rfl⟩

set_option maxRecDepth 100000 in
theorem log2_8 (w : World) : Calls Try.prog 36 #[.float .f32 1090519040] w fun e w' => e = .returned (.float .f32 1077936128) ∧ ∃ n, w' = w.drewN n := by
  have o1 : FloatKind.f32.format.order 1090519040 0 = some .gt := by decide +kernel
  have o2 : FloatKind.f32.format.order 1090519040 2139095039 = some .lt := by decide +kernel
  have c1 := fun w => fcvv (show floatToFloatBits .f32 1090519040 .f64 = some 4620693217682128896 by decide +kernel) w
  have c2 := fcdv (show floatToFloatBits .f32 1090519040 .f64 = some 4620693217682128896 by decide +kernel)
  have d1 := fun w => fcvv (show floatToFloatBits .f64 4613937818241073152 .f32 = some 1077936128 by decide +kernel) w
  have d2 := fcdv (show floatToFloatBits .f64 4613937818241073152 .f32 = some 1077936128 by decide +kernel)
  go_enter Try.func36, Try.ntmps36
  go_wp2_with (first | (go_at_call 70; refine (logn_any _ norm8 _).mono ?_; rintro e w' ⟨r, n, rfl, hr, rfl⟩; rw [log8] at hr; obtain rfl := lit_of_cn hr ⟨by decide +kernel, by decide⟩; clear hr) | (go_at_call 69; go_in))
  go_ret
  exact ⟨rfl, _, rfl⟩

set_option maxRecDepth 100000 in
/-- counts() is true, whatever was drawn. -/
theorem counts_any (w : World) : Calls Try.prog 15 #[] w fun e w' => e = .returned (.bool true) ∧ ∃ n, w' = w.drewN n := by
  have o1 : FloatKind.f32.format.order 1149239296 1149239296 = some .eq := by decide +kernel
  have o2 : FloatKind.f32.format.order 1077936128 1077936128 = some .eq := by decide +kernel
  go_enter Try.func15, Try.ntmps15
  go_wp2_with (first | (go_at_call 40; refine (exp2_10 _).mono ?_; rintro e w' ⟨rfl, n, rfl⟩) | (go_at_call 36; refine (log2_8 _).mono ?_; rintro e w' ⟨rfl, n, rfl⟩))
  go_ret
  exact ⟨rfl, _, rfl⟩
end Go.Proofs.Ytbenjfipbeikmaa
