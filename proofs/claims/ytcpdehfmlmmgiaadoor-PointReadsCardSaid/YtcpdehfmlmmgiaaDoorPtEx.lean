/- The chapter's examples of points: reckoned by the kernel. No program. -/
import Derived.Test.YtcpdehfmlmmgiaaDoorPtLaws
namespace Go.Proofs.YtcpdehfmlmmgiaaDoor
set_option maxRecDepth 100000
set_option linter.unusedSimpArgs false
set_option linter.unusedVariables false

theorem fac_val : facF = 37095705934669439343138083508754565189542113879843219016388785533085940283555 := by
  have h : invF 121666 = 37095705934669439343138083508754565189542113879843219016388785533085940283556 := by
    rw [invF, powF_reckoned _ _ (by decide)]
    decide +kernel
  rw [facF, h]
  decide +kernel
theorem base_val : mulF 4 (invF 5) = 46316835694926478169428394003475163141307993866256225615783033603165251855960 := by
  have h : invF 5 = 11579208923731619542357098500868790785326998466564056403945758400791312963990 := by
    rw [invF, powF_reckoned _ _ (by decide)]
    decide +kernel
  rw [h]
  decide +kernel
theorem base_sqr : sqrP 46316835694926478169428394003475163141307993866256225615783033603165251855960 = 26187595835145689230469591415084376402084551887632582719101735842039498021991 := by
  have h1 : addF (mulF 37095705934669439343138083508754565189542113879843219016388785533085940283555 (mulF 46316835694926478169428394003475163141307993866256225615783033603165251855960 46316835694926478169428394003475163141307993866256225615783033603165251855960)) 1 = 35320460721920060721965471946471712506633951349663716574434581141966314745466 := by decide +kernel
  have h2 : invF 35320460721920060721965471946471712506633951349663716574434581141966314745466 = 36615873626505047815401509688526422966742341385236691817538452001808239043262 := by
    rw [invF, powF_reckoned _ _ (by decide)]
    decide +kernel
  rw [sqrP, fac_val, h1, h2]
  decide +kernel
theorem base_root : (rootF 26187595835145689230469591415084376402084551887632582719101735842039498021991).2 = true := by
  have h : rootX 26187595835145689230469591415084376402084551887632582719101735842039498021991 = pwQ 26187595835145689230469591415084376402084551887632582719101735842039498021991 ((pF + 3) / 8) 256 := powF_reckoned _ _ (by decide)
  have h2 : powF 2 ((pF - 1) / 4) = pwQ 2 ((pF - 1) / 4) 256 := powF_reckoned _ _ (by decide)
  rw [rootF, rootY, h, h2]
  decide +kernel
theorem nought_sqr : sqrP 0 = 57896044618658097711785492504343953926634992332820282019728792003956564819948 := by
  have h1 : addF (mulF 37095705934669439343138083508754565189542113879843219016388785533085940283555 (mulF 0 0)) 1 = 1 := by decide +kernel
  have h2 : invF 1 = 1 := by
    rw [invF, powF_reckoned _ _ (by decide)]
    decide +kernel
  rw [sqrP, fac_val, h1, h2]
  decide +kernel
theorem nought_root : (rootF 57896044618658097711785492504343953926634992332820282019728792003956564819948).2 = true := by
  have h : rootX 57896044618658097711785492504343953926634992332820282019728792003956564819948 = pwQ 57896044618658097711785492504343953926634992332820282019728792003956564819948 ((pF + 3) / 8) 256 := powF_reckoned _ _ (by decide)
  have h2 : powF 2 ((pF - 1) / 4) = pwQ 2 ((pF - 1) / 4) 256 := powF_reckoned _ _ (by decide)
  rw [rootF, rootY, h, h2]
  decide +kernel
theorem two_sqr : sqrP 2 = 43446857792565604583783486763960003913525092658904367978015407342224011949000 := by
  have h1 : addF (mulF 37095705934669439343138083508754565189542113879843219016388785533085940283555 (mulF 2 2)) 1 = 32590734501361561948981349026330352904898470853732312026097558124430631494323 := by decide +kernel
  have h2 : invF 32590734501361561948981349026330352904898470853732312026097558124430631494323 = 53079649009960600002451490590882637255598359108181644005824330450045713862966 := by
    rw [invF, powF_reckoned _ _ (by decide)]
    decide +kernel
  rw [sqrP, fac_val, h1, h2]
  decide +kernel
theorem two_root : (rootF 43446857792565604583783486763960003913525092658904367978015407342224011949000).2 = false := by
  have h : rootX 43446857792565604583783486763960003913525092658904367978015407342224011949000 = pwQ 43446857792565604583783486763960003913525092658904367978015407342224011949000 ((pF + 3) / 8) 256 := powF_reckoned _ _ (by decide)
  have h2 : powF 2 ((pF - 1) / 4) = pwQ 2 ((pF - 1) / 4) 256 := powF_reckoned _ _ (by decide)
  rw [rootF, rootY, h, h2]
  decide +kernel
theorem basL_val : basL = leF 46316835694926478169428394003475163141307993866256225615783033603165251855960 32 := by rw [basL, base_val]
theorem base_low : lowP basL = 46316835694926478169428394003475163141307993866256225615783033603165251855960 := by
  rw [basL_val]
  decide +kernel
theorem base_odd : oddP basL = false := by
  rw [basL_val]
  decide +kernel
theorem base_is : isP basL = true := by
  rw [isP, base_low, base_sqr, base_root, base_odd]
  decide +kernel
theorem base_bytes : bytP baseP = basL := bytes_back basL (leF_length _ 32) base_is
theorem base_first : basL.getD 0 0 = 88 ∧ basL.getD 1 0 = 102 := by
  rw [basL_val]
  decide +kernel
/-- The text of a small number. -/
theorem nought_is : ofE (leF 0 32) = 0 := by
  have h1 : lowP (leF 0 32) = 0 := by decide +kernel
  have h2 : oddP (leF 0 32) = false := by decide +kernel
  have h3 : isP (leF 0 32) = true := by
    rw [isP, h1, nought_sqr, nought_root, h2]
    decide +kernel
  rw [ofE, h3]
  rfl
theorem two_not : ofE (leF 2 32) = 21 := by
  have h1 : lowP (leF 2 32) = 2 := by decide +kernel
  have h3 : isP (leF 2 32) = false := by
    rw [isP, h1, two_sqr, two_root]
    simp
  rw [ofE, h3]
  rfl
end Go.Proofs.YtcpdehfmlmmgiaaDoor
