/-
  Calls that are known, each by one run.
-/
import Derived.Test.YtmckghoaggopnacGreatMRyK4
set_option linter.all false
namespace Go.Proofs.YtmckghoaggopnacGreat.Y
open Go Go.Ry Go.RowKit
def d_153 : DRow := ⟨5, [.one (.sl 0 0 3 3), .one (.sl 1 0 3 3)], [([.v (.int .i64 9), .v (.int .i64 5), .v (.int .i64 3)], 3), ([.v (.int .i64 4), .v (.int .i64 1), .v (.int .i64 0)], 3)], .tup [.one (.slf 2 0 1 2), .one (.v (.int .i64 0))], [([.v (.int .i64 0), .v (.int .i64 1)], 44)], [(0, (0, 0))], [(0, (0, 0)), (0, (1, 0))]⟩
theorem dk_153 : Deep Tryz.prog (lets0 fun _ => 0) d_153 := deep_nowT tabk_4 (by kernel_rfl)
def d_154 : DRow := ⟨5, [.one (.sl 0 0 3 3), .one (.sl 1 0 3 3)], [([.v (.int .i64 8), .v (.int .i64 1), .v (.int .i64 1)], 3), ([.v (.int .i64 2), .v (.int .i64 2), .v (.int .i64 1)], 3)], .tup [.one (.slf 2 0 2 2), .one (.v (.int .i64 0))], [([.v (.int .i64 0), .v (.int .i64 (-1)), .v (.int .i64 1), .v (.int .i64 1)], 44)], [(0, (0, 0))], [(0, (0, 0)), (0, (1, 0))]⟩
theorem dk_154 : Deep Tryz.prog (lets0 fun _ => 0) d_154 := deep_nowT tabk_4 (by kernel_rfl)
def r_155 : Row := ⟨5, [.one (.v (.slice none 0 0)), .one (.v (.slice none 0 0))], .tup [.one (.v (.slice none 0 0)), .one (.v (.int .i64 60))]⟩
theorem k_155 : Known Tryz.prog r_155.f r_155.l r_155.v := row_nowT tabk_4 (by kernel_rfl)
def d_156 : DRow := ⟨5, [.one (.sl 0 0 1 1), .one (.sl 1 0 1 1)], [([.v (.int .i64 0)], 3), ([.v (.int .i64 (-1))], 3)], .tup [.one (.v (.slice none 0 0)), .one (.v (.int .i64 60))], [], [], [(0, (0, 0)), (0, (1, 0))]⟩
theorem dk_156 : Deep Tryz.prog (lets0 fun _ => 0) d_156 := deep_nowT tabk_4 (by kernel_rfl)
def d_157 : DRow := ⟨5, [.one (.sl 0 0 3 3), .one (.sl 1 0 2 2)], [([.v (.int .i64 9), .v (.int .i64 5), .v (.int .i64 3)], 3), ([.v (.int .i64 1), .v (.int .i64 1)], 3)], .tup [.one (.v (.slice none 0 0)), .one (.v (.int .i64 2))], [], [], [(0, (0, 0)), (0, (1, 0))]⟩
theorem dk_157 : Deep Tryz.prog (lets0 fun _ => 0) d_157 := deep_nowT tabk_4 (by kernel_rfl)
def d_158 : DRow := ⟨5, [.one (.sl 0 0 3 3), .one (.sl 1 0 4 4)], [([.v (.int .i64 9), .v (.int .i64 5), .v (.int .i64 3)], 3), ([.v (.int .i64 1), .v (.int .i64 1), .v (.int .i64 1), .v (.int .i64 1)], 3)], .tup [.one (.v (.slice none 0 0)), .one (.v (.int .i64 2))], [], [], [(0, (0, 0)), (0, (1, 0))]⟩
theorem dk_158 : Deep Tryz.prog (lets0 fun _ => 0) d_158 := deep_nowT tabk_4 (by kernel_rfl)
def d_159 : DRow := ⟨5, [.one (.sl 0 0 3 3), .one (.sl 1 0 3 3)], [([.v (.int .i64 9), .v (.int .i64 5), .v (.int .i64 3)], 3), ([.v (.int .i64 0), .v (.int .i64 0), .v (.int .i64 0)], 3)], .tup [.one (.v (.slice none 0 0)), .one (.v (.int .i64 2))], [], [], [(0, (0, 0)), (0, (1, 0))]⟩
theorem dk_159 : Deep Tryz.prog (lets0 fun _ => 0) d_159 := deep_nowT tabk_4 (by kernel_rfl)
def d_160 : DRow := ⟨5, [.one (.sl 0 0 3 3), .one (.sl 1 0 3 3)], [([.v (.int .i64 9), .v (.int .i64 5), .v (.int .i64 3)], 3), ([.v (.int .i64 (-1)), .v (.int .i64 1), .v (.int .i64 1)], 3)], .tup [.one (.v (.slice none 0 0)), .one (.v (.int .i64 2))], [], [], [(0, (0, 0)), (0, (1, 0))]⟩
theorem dk_160 : Deep Tryz.prog (lets0 fun _ => 0) d_160 := deep_nowT tabk_4 (by kernel_rfl)
def d_161 : DRow := ⟨5, [.one (.sl 0 0 3 3), .one (.sl 1 0 3 3)], [([.v (.int .i64 9), .v (.int .i64 5), .v (.int .i64 3)], 3), ([.v (.int .i64 1000), .v (.int .i64 1), .v (.int .i64 0)], 3)], .tup [.one (.v (.slice none 0 0)), .one (.v (.int .i64 2))], [], [], [(0, (0, 0)), (0, (1, 0))]⟩
theorem dk_161 : Deep Tryz.prog (lets0 fun _ => 0) d_161 := deep_nowT tabk_4 (by kernel_rfl)
def d_162 : DRow := ⟨5, [.one (.sl 0 0 3 3), .one (.sl 1 0 3 3)], [([.v (.int .i64 9), .v (.int .i64 5), .v (.int .i64 3)], 3), ([.v (.int .i64 1001), .v (.int .i64 0), .v (.int .i64 0)], 3)], .tup [.one (.v (.slice none 0 0)), .one (.v (.int .i64 2))], [], [], [(0, (0, 0)), (0, (1, 0))]⟩
theorem dk_162 : Deep Tryz.prog (lets0 fun _ => 0) d_162 := deep_nowT tabk_4 (by kernel_rfl)
def d_163 : DRow := ⟨5, [.one (.sl 0 0 3 3), .one (.sl 1 0 3 3)], [([.v (.int .i64 9), .v (.int .i64 5), .v (.int .i64 3)], 3), ([.v (.int .i64 1000), .v (.int .i64 0), .v (.int .i64 0)], 3)], .tup [.one (.slf 2 0 3 2), .one (.v (.int .i64 0))], [([.v (.int .i64 0), .v (.int .i64 1), .v (.int .i64 1), .v (.int .i64 (-1)), .v (.int .i64 2), .v (.int .i64 (-1))], 44)], [(0, (0, 0))], [(0, (0, 0)), (0, (1, 0))]⟩
theorem dk_163 : Deep Tryz.prog (lets0 fun _ => 0) d_163 := deep_nowT tabk_4 (by kernel_rfl)
def d_164 : DRow := ⟨6, [.one (.sl 0 0 3 3), .one (.sl 1 0 3 3), .one (.v (.int .i64 14))], [([.v (.int .i64 9), .v (.int .i64 5), .v (.int .i64 3)], 3), ([.v (.int .i64 3), .v (.int .i64 1), .v (.int .i64 0)], 3)], .tup [.one (.slf 2 0 1 2), .one (.v (.int .i64 0))], [([.v (.int .i64 0), .v (.int .i64 2)], 44)], [(0, (0, 0))], [(0, (0, 0)), (0, (1, 0))]⟩
theorem dk_164 : Deep Tryz.prog (lets0 fun _ => 0) d_164 := deep_nowT tabk_4 (by kernel_rfl)
def r_165 : Row := ⟨6, [.one (.v (.slice none 0 0)), .one (.v (.slice none 0 0)), .one (.v (.int .i64 0))], .tup [.one (.v (.slice none 0 0)), .one (.v (.int .i64 60))]⟩
theorem k_165 : Known Tryz.prog r_165.f r_165.l r_165.v := row_nowT tabk_4 (by kernel_rfl)
def d_166 : DRow := ⟨6, [.one (.sl 0 0 1 1), .one (.sl 1 0 1 1), .one (.v (.int .i64 0))], [([.v (.int .i64 0)], 3), ([.v (.int .i64 (-1))], 3)], .tup [.one (.v (.slice none 0 0)), .one (.v (.int .i64 60))], [], [], [(0, (0, 0)), (0, (1, 0))]⟩
theorem dk_166 : Deep Tryz.prog (lets0 fun _ => 0) d_166 := deep_nowT tabk_4 (by kernel_rfl)
end Go.Proofs.YtmckghoaggopnacGreat.Y
