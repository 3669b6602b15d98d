/- Who is not given anything gets nothing: of any act, on plain data. -/
import Derived.Test.YtihckdndecbefacGrowLaw
set_option linter.unusedVariables false
namespace Go.Proofs.Ytihckdndecbefac
open Go.RowKit

def sMake : List UInt8 := [109, 97, 107, 101]
def sGive : List UInt8 := [103, 105, 118, 101]
def sMove : List UInt8 := [109, 111, 118, 101]
def sDrop : List UInt8 := [100, 114, 111, 112]
def sRevoke : List UInt8 := [114, 101, 118, 111, 107, 101]
def sTake : List UInt8 := [116, 97, 107, 101]
theorem top_alone {r : Rm} {x : Ac} {g t : Int} (hW : Whole r) (hc : doC r x = 0) (hne : ¬ atP (doR r x).hs g t = atP r.hs g t) :
    (atP (doR r x).hs g t = 0 ∧ (x.kd.toList = sDrop ∨ x.kd.toList = sRevoke ∨ x.kd.toList = sMove ∧ g = x.ph ∧ t = x.ps)) ∨
    (¬ atP (doR r x).hs g t = 0 ∧ atP r.hs g t = 0 ∧ (x.kd.toList = sGive ∧ g = x.qh ∧ t = x.qs ∨ x.kd.toList = sMake ∧ g = x.ph ∧ t = x.ps ∨ x.kd.toList = sMove ∧ g = x.ph ∨ x.kd.toList = sTake ∧ g = x.ph)) := by
  unfold doC at hc
  unfold doR at hne ⊢
  split at hc
  · rename_i k
    rw [if_pos k] at hne ⊢
    rcases at_make hc g t with e | ⟨e1, e2, e3⟩
    · exact absurd e hne
    · exact .inr ⟨fun e => hne (e.trans e3.symm), e3, .inr (.inl ⟨eq_of_beq k, e1, e2⟩)⟩
  · rename_i k0
    rw [if_neg k0] at hne ⊢
    split at hc
    · rename_i k
      rw [if_pos k] at hne ⊢
      rcases at_give hc g t with e | ⟨e1, e2, e3⟩
      · exact absurd e hne
      · exact .inr ⟨fun e => hne (e.trans e3.symm), e3, .inl ⟨eq_of_beq k, e1, e2⟩⟩
    · rename_i k1
      rw [if_neg k1] at hne ⊢
      split at hc
      · rename_i k
        rw [if_pos k] at hne ⊢
        rcases at_move hc g t with e | ⟨e1, e2, e3⟩ | ⟨e1, e2, e3⟩
        · exact absurd e hne
        · exact .inr ⟨fun e => hne (e.trans e3.symm), e3, .inr (.inr (.inl ⟨eq_of_beq k, e1⟩))⟩
        · exact .inl ⟨e3, .inr (.inr ⟨eq_of_beq k, e1, e2⟩)⟩
      · rename_i k2
        rw [if_neg k2] at hne ⊢
        split at hc
        · rename_i k
          rw [if_pos k] at hne ⊢
          rcases at_drop hW x.ph x.ps g t with e | e
          · exact absurd e hne
          · exact .inl ⟨e, .inl (eq_of_beq k)⟩
        · rename_i k3
          rw [if_neg k3] at hne ⊢
          split at hc
          · rename_i k
            rw [if_pos k] at hne ⊢
            rcases at_revoke hW x.ph x.ps g t with e | e
            · exact absurd e hne
            · exact .inl ⟨e, .inr (.inl (eq_of_beq k))⟩
          · rename_i k4
            rw [if_neg k4] at hne ⊢
            split at hc
            · rename_i k
              rw [if_pos k] at hne
              exact absurd rfl hne
            · rename_i k5
              rw [if_neg k5] at hne ⊢
              split at hc
              · rename_i k
                rw [if_pos k] at hne
                exact absurd (at_send _ _ _ _ _ _ _ _) hne
              · rename_i k6
                rw [if_neg k6] at hne ⊢
                split at hc
                · rename_i k
                  rw [if_pos k] at hne ⊢
                  rcases at_take hc g t with e | ⟨e1, e2⟩
                  · exact absurd e hne
                  · exact .inr ⟨fun e => hne (e.trans e2.symm), e2, .inr (.inr (.inr ⟨eq_of_beq k, e1⟩))⟩
                · rename_i k7
                  rw [if_neg k7] at hne
                  exact absurd rfl hne
end Go.Proofs.Ytihckdndecbefac
