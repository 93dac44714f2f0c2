/- Triangles' corners compared. -/
import Derived.Test.YtlpdfnkfknbopaaSoS
import Derived.Test.YtlpdfnkfknbopaaHatS
import Derived.ChangeKeysEq
import Derived.OwnWalk
namespace Go.Proofs.Ytlpdfnkfknbopaa
open Go.RowKit
set_option linter.unusedVariables false

set_option maxHeartbeats 4000000 in
theorem t_corners (w : World) (a1 a2 a3 a4 a5 a6 a7 a8 a9 b1 b2 b3 b4 b5 b6 b7 b8 b9 : Int) : (Op.equalIn 9999 31 (.agg #[.int .i64 a1, .int .i64 a2, .int .i64 a3, .int .i64 a4, .int .i64 a5, .int .i64 a6, .int .i64 a7, .int .i64 a8, .int .i64 a9]) (.agg #[.int .i64 b1, .int .i64 b2, .int .i64 b3, .int .i64 b4, .int .i64 b5, .int .i64 b6, .int .i64 b7, .int .i64 b8, .int .i64 b9])).run Try.prog w
    = .ok (a1 == b1 && a2 == b2 && a3 == b3 && a4 == b4 && a5 == b5 && a6 == b6 && a7 == b7 && a8 == b8 && a9 == b9) w := by
  obtain ⟨i, hi, -⟩ := info_parts (show (Try.prog.info? 30).map (fun i => (i.zero, i.size, i.bytes)) = some (some (.agg #[.int .i64 0, .int .i64 0, .int .i64 0]), 3, 24) from by kernel_rfl)
  rw [show (9999 : Nat) = 9998 + 1 from rfl, run_equalIn_array w 9998 _ _ Try.underlying31 hi, show List.range 3 = [0, 1, 2] from rfl, show Try.prog.cellsOf 30 = 3 from by kernel_rfl]
  clear hi
  simp only [Op.eqItems]
  cases h1 : (a1 == b1)
  · go_simp
  · cases h2 : (a2 == b2)
    · go_simp
    · cases h3 : (a3 == b3)
      · go_simp
      · cases h4 : (a4 == b4)
        · go_simp
        · cases h5 : (a5 == b5)
          · go_simp
          · cases h6 : (a6 == b6)
            · go_simp
            · cases h7 : (a7 == b7)
              · go_simp
              · cases h8 : (a8 == b8)
                · go_simp
                · cases h9 : (a9 == b9)
                  · go_simp
                  · go_simp

end Go.Proofs.Ytlpdfnkfknbopaa
