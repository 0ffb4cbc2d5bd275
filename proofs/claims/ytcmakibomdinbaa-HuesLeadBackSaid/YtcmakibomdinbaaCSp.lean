/-
  Colours: the known spaces.
-/
import Derived.Test.YtcmakibomdinbaaCSatR
namespace Go.Proofs.Ytcmakibomdinbaa
open Go.RowKit
attribute [local go_sem] run_store_float

def sp0 : Array Value := #[Value.string { data := #[108, 105, 110, 101, 97, 114] }, .float .f32 1059313418, .float .f32 1051260355, .float .f32 1050253722, .float .f32 1058642330, .float .f32 1041865114, .float .f32 1031127695, .float .f32 1050679863, .float .f32 1051226800, .int .i64 1, .float .f32 0, .float .f32 0, .float .f32 0]
def sp1 : Array Value := #[Value.string { data := #[118, 105, 100, 101, 111] }, .float .f32 1059313418, .float .f32 1051260355, .float .f32 1050253722, .float .f32 1058642330, .float .f32 1041865114, .float .f32 1031127695, .float .f32 1050679863, .float .f32 1051226800, .int .i64 3, .float .f32 1075419546, .float .f32 1029785518, .float .f32 1095678034]
def sp2 : Array Value := #[Value.string { data := #[99, 105, 110, 101, 109, 97] }, .float .f32 1059984507, .float .f32 1050924810, .float .f32 1049079316, .float .f32 1060152279, .float .f32 1041865114, .float .f32 1031127695, .float .f32 1050723484, .float .f32 1051964998, .int .i64 2, .float .f32 1076258406, .float .f32 0, .float .f32 0]
def sp3 : Array Value := #[Value.string { data := #[119, 105, 100, 101] }, .float .f32 1060454269, .float .f32 1049985286, .float .f32 1043207291, .float .f32 1061947441, .float .f32 1040590045, .float .f32 1027369599, .float .f32 1050679863, .float .f32 1051226800, .int .i64 2, .float .f32 1075419546, .float .f32 0, .float .f32 0]
def sp4 : Array Value := #[Value.string { data := #[115, 99, 101, 110, 101] }, .float .f32 1060538155, .float .f32 1050018841, .float .f32 1042871747, .float .f32 1062501089, .float .f32 1040388719, .float .f32 1026832728, .float .f32 1050981182, .float .f32 1051517717, .int .i64 1, .float .f32 0, .float .f32 0, .float .f32 0]
def sp5 : Array Value := #[Value.string { data := #[102, 105, 108, 109] }, .float .f32 1060538155, .float .f32 1050018841, .float .f32 1042871747, .float .f32 1062501089, .float .f32 1040388719, .float .f32 1026832728, .float .f32 1050981182, .float .f32 1051517717, .int .i64 4, .float .f32 1132462080, .float .f32 1031798784, .float .f32 0]
def spAll : Array Value := #[Value.string { data := #[108, 105, 110, 101, 97, 114] }, .float .f32 1059313418, .float .f32 1051260355, .float .f32 1050253722, .float .f32 1058642330, .float .f32 1041865114, .float .f32 1031127695, .float .f32 1050679863, .float .f32 1051226800, .int .i64 1, .float .f32 0, .float .f32 0, .float .f32 0, Value.string { data := #[118, 105, 100, 101, 111] }, .float .f32 1059313418, .float .f32 1051260355, .float .f32 1050253722, .float .f32 1058642330, .float .f32 1041865114, .float .f32 1031127695, .float .f32 1050679863, .float .f32 1051226800, .int .i64 3, .float .f32 1075419546, .float .f32 1029785518, .float .f32 1095678034, Value.string { data := #[99, 105, 110, 101, 109, 97] }, .float .f32 1059984507, .float .f32 1050924810, .float .f32 1049079316, .float .f32 1060152279, .float .f32 1041865114, .float .f32 1031127695, .float .f32 1050723484, .float .f32 1051964998, .int .i64 2, .float .f32 1076258406, .float .f32 0, .float .f32 0, Value.string { data := #[119, 105, 100, 101] }, .float .f32 1060454269, .float .f32 1049985286, .float .f32 1043207291, .float .f32 1061947441, .float .f32 1040590045, .float .f32 1027369599, .float .f32 1050679863, .float .f32 1051226800, .int .i64 2, .float .f32 1075419546, .float .f32 0, .float .f32 0, Value.string { data := #[115, 99, 101, 110, 101] }, .float .f32 1060538155, .float .f32 1050018841, .float .f32 1042871747, .float .f32 1062501089, .float .f32 1040388719, .float .f32 1026832728, .float .f32 1050981182, .float .f32 1051517717, .int .i64 1, .float .f32 0, .float .f32 0, .float .f32 0, Value.string { data := #[102, 105, 108, 109] }, .float .f32 1060538155, .float .f32 1050018841, .float .f32 1042871747, .float .f32 1062501089, .float .f32 1040388719, .float .f32 1026832728, .float .f32 1050981182, .float .f32 1051517717, .int .i64 4, .float .f32 1132462080, .float .f32 1031798784, .float .f32 0]

set_option maxRecDepth 100000 in
set_option maxHeartbeats 2000000 in
theorem spaces_any (w : World) : Calls Try.prog 67 #[] w fun e w' => e = .returned (.slice (some ⟨w.heap.size + 5, 0, none⟩) 6 6) ∧ Blk w' (w.heap.size + 5) 35 spAll ∧ Below w.heap.size w w' := by
  go_enter Try.func67, Try.ntmps67
  go_wp2_with fail
  go_ret
  refine ⟨rfl, Blk.new_at _ _ _ (by simp), ?_⟩
  repeat (first | exact Below.refl _ _ | refine Below.alloc ?_ (by first | (simp; done) | (simp; omega)) _)
end Go.Proofs.Ytcmakibomdinbaa
