/- What came in, read as worlds. -/
import Derived.Test.YtgpglgchbimmaaaOpensD
namespace Go.Proofs.Ytgpglgchbimmaaa
open Go.ChangeShapes Go.WideShapes Go.ChangeAt Go.RowKit Go.Deep
set_option linter.unusedVariables false
theorem opens_map {α β : Type} {A : Lay α} {B : Lay β} {t : TypeId} (h : Opens A t) (hs : A.sz = B.sz) (hi : ∃ b : β, True) (f : ∀ W hi a cs, A.rd W hi a cs → ∃ b, B.rd W hi b cs) : Opens B t :=
  ⟨h.size.trans hs, hi, fun h1 => by
    obtain ⟨a, ha⟩ := h.opens h1
    exact f _ _ _ _ ha⟩
/-- nine numbers as a shape -/
def nine (a0 a1 a2 a3 a4 a5 a6 a7 a8 : Int) : Nat → Int
  | 0 => a0 | 1 => a1 | 2 => a2 | 3 => a3 | 4 => a4 | 5 => a5 | 6 => a6 | 7 => a7 | 8 => a8 | _ => 0
theorem opensShape9 : Opens (layNums 9) 23 := by
  refine opens_map (A := layI.two (layI.two (layI.two (layI.two (layI.two (layI.two (layI.two (layI.two layI)))))))) ?_ rfl ⟨fun _ => 0, trivial⟩ ?_
  · exact opens_struct Try.underlying23 (show _ = 9 by kernel_rfl)
      (opens_more ⟨_, rfl, rfl, rfl⟩ (opensI Try.underlying2 (by kernel_rfl))
      (opens_more ⟨_, rfl, rfl, rfl⟩ (opensI Try.underlying2 (by kernel_rfl))
      (opens_more ⟨_, rfl, rfl, rfl⟩ (opensI Try.underlying2 (by kernel_rfl))
      (opens_more ⟨_, rfl, rfl, rfl⟩ (opensI Try.underlying2 (by kernel_rfl))
      (opens_more ⟨_, rfl, rfl, rfl⟩ (opensI Try.underlying2 (by kernel_rfl))
      (opens_more ⟨_, rfl, rfl, rfl⟩ (opensI Try.underlying2 (by kernel_rfl))
      (opens_more ⟨_, rfl, rfl, rfl⟩ (opensI Try.underlying2 (by kernel_rfl))
      (opens_more ⟨_, rfl, rfl, rfl⟩ (opensI Try.underlying2 (by kernel_rfl))
      (opens_last ⟨_, rfl, rfl, rfl⟩ (opensI Try.underlying2 (by kernel_rfl)) rfl)))))))))
  · intro W hi a cs h
    obtain ⟨a0, a1, a2, a3, a4, a5, a6, a7, a8⟩ := a
    obtain ⟨_, _, rfl, ⟨rfl, k0⟩, _, _, rfl, ⟨rfl, k1⟩, _, _, rfl, ⟨rfl, k2⟩, _, _, rfl, ⟨rfl, k3⟩, _, _, rfl, ⟨rfl, k4⟩, _, _, rfl, ⟨rfl, k5⟩, _, _, rfl, ⟨rfl, k6⟩, _, _, rfl, ⟨rfl, k7⟩, ⟨rfl, k8⟩⟩ := h
    refine ⟨nine a0 a1 a2 a3 a4 a5 a6 a7 a8, rfl, fun i => ?_⟩
    match i with
    | 0 => exact k0
    | 1 => exact k1
    | 2 => exact k2
    | 3 => exact k3
    | 4 => exact k4
    | 5 => exact k5
    | 6 => exact k6
    | 7 => exact k7
    | 8 => exact k8
    | n + 9 => exact ⟨show (-9223372036854775808 : Int) ≤ 0 by decide, show (0 : Int) ≤ 9223372036854775807 by decide⟩
theorem opensBlock : Opens layBlock 119 :=
  opens_as (A := layI.two layBytes) (fun p => ⟨p.1, p.2⟩) (fun _ => rfl)
    (opens_struct Try.underlying119 (show _ = 2 by kernel_rfl)
      (opens_more ⟨_, rfl, rfl, rfl⟩ (opensI Try.underlying2 (by kernel_rfl))
      (opens_last ⟨_, rfl, rfl, rfl⟩ (opensBytes Try.underlying39 Try.underlying5 (by kernel_rfl) (by kernel_rfl)) rfl)))
theorem opensDrive : Opens layDrive 103 :=
  opens_as (A := layB.two (layBlock.slice 88)) (fun p => ⟨p.1, p.2⟩) (fun _ => rfl)
    (opens_struct Try.underlying103 (show _ = 2 by kernel_rfl)
      (opens_more ⟨_, rfl, rfl, rfl⟩ (opensB Try.underlying4 (by kernel_rfl))
      (opens_last ⟨_, rfl, rfl, rfl⟩ (opens_slice (by decide) Try.underlying101 (by kernel_rfl) opensBlock) rfl)))
theorem opensTape : Opens layTape 81 :=
  opens_as (A := layB.two (layRec.slice 45)) (fun p => ⟨p.1, p.2⟩) (fun _ => rfl)
    (opens_struct Try.underlying81 (show _ = 2 by kernel_rfl)
      (opens_more ⟨_, rfl, rfl, rfl⟩ (opensB Try.underlying4 (by kernel_rfl))
      (opens_last ⟨_, rfl, rfl, rfl⟩ (opens_slice (by decide) Try.underlying79 (by kernel_rfl) opensRec) rfl)))
theorem opensWorld : Opens layWorld 28 :=
  opens_as (A := (layNums 9).two (((layDrive.slice 86).slice 83).two (layInts.two ((layTape.slice 57).two (layI.two (layI.two layB)))))) (fun p => ⟨p.1, p.2.1, p.2.2.1, p.2.2.2.1, p.2.2.2.2.1, p.2.2.2.2.2.1, p.2.2.2.2.2.2⟩) (fun _ => rfl)
    (opens_struct Try.underlying28 (show _ = 15 by kernel_rfl)
      (opens_more ⟨_, rfl, rfl, rfl⟩ opensShape9
      (opens_more ⟨_, rfl, rfl, rfl⟩ (opens_slice (by decide) Try.underlying24 (by kernel_rfl) (opens_slice (by decide) Try.underlying77 (by kernel_rfl) opensDrive))
      (opens_more ⟨_, rfl, rfl, rfl⟩ (opensInts Try.underlying25 Try.underlying2 (by kernel_rfl) (by kernel_rfl))
      (opens_more ⟨_, rfl, rfl, rfl⟩ (opens_slice (by decide) Try.underlying26 (by kernel_rfl) opensTape)
      (opens_more ⟨_, rfl, rfl, rfl⟩ (opensI Try.underlying2 (by kernel_rfl))
      (opens_more ⟨_, rfl, rfl, rfl⟩ (opensI Try.underlying2 (by kernel_rfl))
      (opens_last ⟨_, rfl, rfl, rfl⟩ (opensB Try.underlying4 (by kernel_rfl)) rfl))))))))
end Go.Proofs.Ytgpglgchbimmaaa
