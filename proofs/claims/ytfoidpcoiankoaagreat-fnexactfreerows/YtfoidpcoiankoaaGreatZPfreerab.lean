/- Walks of scaled bytes: the specification's l1Scale and ScaleBytes, the program's addScaled, scaled and ScaleBytes. -/
import Derived.Test.YtfoidpcoiankoaaGreatZPfreeraa
import Derived.Deep.RegionLaw
import Derived.Laws.CopyOwn
import Derived.Deep.DeepCutAuto
import Derived.BigQuiet
import Derived.Deep.QuietTactic
set_option linter.unusedVariables false
set_option linter.unusedSimpArgs false
namespace Go.Proofs.YtfoidpcoiankoaaGreat
open Go.RowKit F256
end Go.Proofs.YtfoidpcoiankoaaGreat
namespace Go.Proofs.YtfoidpcoiankoaaGreat
open Go.RowKit F256
end Go.Proofs.YtfoidpcoiankoaaGreat
namespace Go.Proofs.YtfoidpcoiankoaaGreat
open Go.RowKit F256
end Go.Proofs.YtfoidpcoiankoaaGreat
namespace Go.Proofs.YtfoidpcoiankoaaGreat
open F256
abbrev Mat:=Nat → Nat → Nat
def leadF (M:Mat) (c R:Nat):Nat → Nat → Nat
  | 0,_ => R
  | d + 1,i => if M i c = 0 then leadF M c R d (i + 1) else i
def lead (M:Mat) (c R r:Nat):Nat:=leadF M c R (R - r) r
end Go.Proofs.YtfoidpcoiankoaaGreat
namespace Go.Proofs.YtfoidpcoiankoaaGreat
open F256
end Go.Proofs.YtfoidpcoiankoaaGreat
namespace Go.Proofs.YtfoidpcoiankoaaGreat
open F256
end Go.Proofs.YtfoidpcoiankoaaGreat
namespace Go.Proofs.YtfoidpcoiankoaaGreat
open F256
end Go.Proofs.YtfoidpcoiankoaaGreat
namespace Go.Proofs.YtfoidpcoiankoaaGreat
open F256
end Go.Proofs.YtfoidpcoiankoaaGreat
namespace Go.Proofs.YtfoidpcoiankoaaGreat
end Go.Proofs.YtfoidpcoiankoaaGreat
namespace Go.Proofs.YtfoidpcoiankoaaGreat
open Go.RowKit F256
end Go.Proofs.YtfoidpcoiankoaaGreat
namespace Go.Proofs.YtfoidpcoiankoaaGreat
open Go.RowKit F256
def cau (C t:Nat):Nat:=powN ((128 + t / C) ^^^ (t % C)) 254
theorem l1In_yes (v a b:Int) (h1:a ≤ v) (h2:v ≤ b) (w:World) :
    Calls Tryz.prog 34 #[.int .i64 v,.int .i64 a,.int .i64 b] w fun e w' => e = .returned (.bool true) ∧ w' = w:=by
  go_enter Tryz.func34,Tryz.ntmps34
  go_wp2;go_ret;exact ⟨rfl,rfl⟩
theorem l1In_no (v a b:Int) (h:v < a ∨ b < v) (w:World) :
    Calls Tryz.prog 34 #[.int .i64 v,.int .i64 a,.int .i64 b] w fun e w' => e = .returned (.bool false) ∧ w' = w:=by
  by_cases h1:v < a
  · have hd:decide (a ≤ v) = false:=by simp;omega
    go_enter Tryz.func34,Tryz.ntmps34
    go_wp2;go_ret;exact ⟨rfl,rfl⟩
  · have h2:b < v:=by omega
    have h3:a ≤ v:=by omega
    have hd:decide (v ≤ b) = false:=by simp;omega
    go_enter Tryz.func34,Tryz.ntmps34
    go_wp2;go_ret;exact ⟨rfl,rfl⟩
end Go.Proofs.YtfoidpcoiankoaaGreat
namespace Go.Proofs.YtfoidpcoiankoaaGreat
open Go.RowKit F256
end Go.Proofs.YtfoidpcoiankoaaGreat
namespace Go.Proofs.YtfoidpcoiankoaaGreat
open Go.RowKit F256
end Go.Proofs.YtfoidpcoiankoaaGreat
namespace Go.Proofs.YtfoidpcoiankoaaGreat
open Go.RowKit F256
structure Bld (w wr:World) (lo:Nat) (v:Value) (k:Nat) (n:Nat → Nat) (f:Mat) (e:Nat → Value):Prop where
  row:wr.ownsRow lo 64 1 v k (valsOf k e)
  notnil:v ≠ nilS
  each:∀ i,i < k → Own wr lo wr.heap.size (e i) (n i) (f i)
  apart:∀ i j,i < k → j < k → i ≠ j → ∀ b,(e i).ownBlock = some b → (e j).ownBlock ≠ some b
  bel:Below lo w wr
  le:lo ≤ wr.heap.size
structure BldR (wr:World) (lo hi:Nat) (v:Value) (k:Nat) (n:Nat → Nat) (f:Mat) (e:Nat → Value):Prop where
  row:wr.ownsRow lo 64 1 v k (valsOf k e)
  notnil:v ≠ nilS
  low:∀ b,v.ownBlock = some b → b < hi
  each:∀ i,i < k → Own wr lo hi (e i) (n i) (f i)
  apart:∀ i j,i < k → j < k → i ≠ j → ∀ b,(e i).ownBlock = some b → (e j).ownBlock ≠ some b
  le:lo ≤ hi
  le2:hi ≤ wr.heap.size
end Go.Proofs.YtfoidpcoiankoaaGreat
namespace Go.Proofs.YtfoidpcoiankoaaGreat
open Go.RowKit F256
def BoolP (P:Prop) (w:World) (e:Ending) (w':World):Prop:=∃ b:Bool,e = .returned (.bool b) ∧ (b = true ↔ P) ∧ Below w.heap.size w w'
theorem boolYes {P:Prop} {w:World} {e:Ending} {w':World} (he:e = .returned (.bool true)) (h:P) (hb:Below w.heap.size w w'):BoolP P w e w':=⟨true,he,⟨fun _ => h,fun _ => rfl⟩,hb⟩
theorem boolNo {P:Prop} {w:World} {e:Ending} {w':World} (he:e = .returned (.bool false)) (h:¬ P) (hb:Below w.heap.size w w'):BoolP P w e w':=⟨false,he,⟨fun h => (by cases h),fun hh => absurd hh h⟩,hb⟩
def Shp (d s:Int):Prop:=1 ≤ d ∧ d ≤ 3 ∧ 0 ≤ s ∧ s ≤ 2
theorem l2Shape_any (d s:Int) (w:World) :
    Calls Tryz.prog 78 #[.int .i64 d,.int .i64 s] w (BoolP (Shp d s) w):=by
  by_cases h1:1 ≤ d ∧ d ≤ 3
  · by_cases h2:0 ≤ s ∧ s ≤ 2
    · go_enter Tryz.func78,Tryz.ntmps78
      go_wp2_with fail
      refine (l1In_yes d 1 3 h1.1 h1.2 _).mono ?_;rintro e w1 ⟨rfl,rfl⟩
      go_wp2_with fail
      refine (l1In_yes s 0 2 h2.1 h2.2 _).mono ?_;rintro e w1 ⟨rfl,rfl⟩;go_wp2;go_ret;exact boolYes rfl ⟨h1.1,h1.2,h2.1,h2.2⟩ (Below.refl _ _)
    · go_enter Tryz.func78,Tryz.ntmps78
      go_wp2_with fail
      refine (l1In_yes d 1 3 h1.1 h1.2 _).mono ?_;rintro e w1 ⟨rfl,rfl⟩
      go_wp2_with fail
      refine (l1In_no s 0 2 (by omega) _).mono ?_;rintro e w1 ⟨rfl,rfl⟩;go_wp2;go_ret;exact boolNo rfl (fun h => h2 ⟨h.2.2.1,h.2.2.2⟩) (Below.refl _ _)
  · go_enter Tryz.func78,Tryz.ntmps78
    go_wp2_with fail
    refine (l1In_no d 1 3 (by omega) _).mono ?_;rintro e w1 ⟨rfl,rfl⟩;go_wp2;go_ret;exact boolNo rfl (fun h => h1 ⟨h.1,h.2.1⟩) (Below.refl _ _)
def SameP (n m:Nat) (f g:Nat → Nat):Prop:=n = m ∧ ∀ i,i < n → f i = g i
set_option maxHeartbeats 1000000 in
theorem l2Same_any (v1 v2:Value) (n m:Nat) (f g:Nat → Nat) (h1 h2:Nat) (w:World) (r1:Rd w h1 v1 n f) (r2:Rd w h2 v2 m g) :
    Calls Tryz.prog 115 #[v1,v2] w (BoolP (SameP n m f g) w):=by
  obtain ⟨ao,cap,rfl,hm,hc⟩:=r1;obtain ⟨ao2,cap2,rfl,hm2,hc2⟩:=r2;unfold maxLen at hm hm2
  by_cases hnm:n = m
  · subst hnm
    go_enter Tryz.func115,Tryz.ntmps115
    go_wp2
    go_loopw [5] (fun i wr => ∃ k:Nat,k ≤ n ∧ i = .int .i64 k ∧ (∀ i,i < k → f i = g i) ∧ ∃ m,wr = w.drewN m) (fun i _ => n - (intOf i).toNat)
    case atStart => exact ⟨0,Nat.zero_le _,rfl,fun i hi => by omega,0,rfl⟩
    case round =>
      obtain ⟨k,hk,rfl,hall,q,rfl⟩:=hrel;have HALL:Hid (∀ i,i < k → f i = g i):=hall;clear hall
      by_cases hlt:k < n
      · obtain ⟨b,off,rfl,hblt,hcell⟩:=hc (by omega)
        obtain ⟨b2,off2,rfl,hblt2,hcell2⟩:=hc2 (by omega);have hck:w.cell? ⟨b,off + k,none⟩ = some (.int .u8 (f k)):=hcell k hlt;have hck2:w.cell? ⟨b2,off2 + k,none⟩ = some (.int .u8 (g k)):=hcell2 k hlt;obtain ⟨x,hx⟩:∃ x,x = f k:=⟨_,rfl⟩;obtain ⟨y,hy⟩:∃ y,y = g k:=⟨_,rfl⟩;have HX:Hid (x = f k):=hx;have HY:Hid (y = g k):=hy;rw [← hx] at hck;rw [← hy] at hck2;clear hc hc2 hcell hcell2 hx hy
        by_cases heq:x = y
        · subst heq
          go_wp2
          go_quiet (fail)
          go_wp2
          go_roundw
          case rel => exact ⟨k + 1,by omega,by go_num,fun i hi => by
                        by_cases c:i = k
                        · rw [c,← HX.out,← HY.out]
                        · exact HALL.out i (by omega),_,rfl⟩
          case measure => simp [intOf];omega
        · have tn:((x:Int) != (y:Int)) = true:=by simp;omega
          go_wp2
          go_quiet (fail)
          go_wp2;go_ret;exact boolNo rfl (fun h => absurd (h.2 k hlt) (by rw [← HX.out,← HY.out];exact heq)) (below_drewN (below_drewN (Below.refl _ _) _) _)
      · have hkn:k = n:=by omega
        subst hkn;go_wp2;go_ret;exact boolYes rfl ⟨rfl,HALL.out⟩ (below_drewN (Below.refl _ _) _)
  · have tn:((n:Int) != (m:Int)) = true:=by simp;omega
    clear hc hc2
    go_enter Tryz.func115,Tryz.ntmps115
    go_wp2;go_ret;exact boolNo rfl (fun h => hnm h.1) (Below.refl _ _)
end Go.Proofs.YtfoidpcoiankoaaGreat
namespace Go.Proofs.YtfoidpcoiankoaaGreat
open Go.RowKit F256
def RiseP (n:Nat) (g:Nat → Int) (most:Int):Prop:=∀ i,i < n → 0 ≤ g i ∧ g i ≤ most ∧ (0 < i → g (i - 1) < g i)
set_option maxHeartbeats 2000000 in
theorem l2Rise_any (v:Value) (n:Nat) (g:Nat → Int) (hi:Nat) (most:Int) (w:World) (r:RdI w hi v n g) :
    Calls Tryz.prog 83 #[v,.int .i64 most] w (BoolP (RiseP n g most) w):=by
  obtain ⟨ao,cap,rfl,hm,hc⟩:=r;unfold maxLen at hm
  go_enter Tryz.func83,Tryz.ntmps83
  go_wp2
  go_loopw [5] (fun i wr => ∃ k:Nat,k ≤ n ∧ i = .int .i64 k ∧ (∀ i,i < k → 0 ≤ g i ∧ g i ≤ most ∧ (0 < i → g (i - 1) < g i)) ∧ ∃ q,wr = w.drewN q) (fun i _ => n - (intOf i).toNat)
  case atStart => exact ⟨0,Nat.zero_le _,rfl,fun i hi => by omega,0,rfl⟩
  case round =>
    obtain ⟨k,hk,rfl,hall,q,rfl⟩:=hrel;have HALL:Hid (∀ i,i < k → 0 ≤ g i ∧ g i ≤ most ∧ (0 < i → g (i - 1) < g i)):=hall;clear hall
    by_cases hlt:k < n
    · obtain ⟨b,off,rfl,hblt,hcell⟩:=hc (by omega)
      have hck:w.cell? ⟨b,off + k,none⟩ = some (.int .i64 (g k)):=hcell k hlt;have HCL:Hid (∀ i,i < n → w.cell? ⟨b,off + i,none⟩ = some (.int .i64 (g i))):=hcell;obtain ⟨x,hx⟩:∃ x,x = g k:=⟨_,rfl⟩;have HX:Hid (x = g k):=hx;rw [← hx] at hck;clear hc hcell hx
      by_cases h1:x < 0
      · have no:¬ RiseP n g most:=fun h => by have:=(h k hlt).1;rw [← HX.out] at this;omega
        have HNO:Hid (¬ RiseP n g most):=no;clear no;go_wp2
        go_quiet (fail)
        go_wp2;go_ret;exact boolNo rfl HNO.out (below_drewN (below_drewN (Below.refl _ _) _) _)
      · have e1:decide (x < 0) = false:=by simp;omega
        by_cases h2:most < x
        · have HNO:Hid (¬ RiseP n g most):=fun h => by have:=(h k hlt).2.1;rw [← HX.out] at this;omega
          go_wp2
          go_quiet (fail)
          go_wp2;go_ret;exact boolNo rfl HNO.out (below_drewN (below_drewN (Below.refl _ _) _) _)
        · have e2:decide (most < x) = false:=by simp;omega
          by_cases h3:0 < k
          · obtain ⟨k1,hk1⟩:∃ k1,k1 + 1 = k:=⟨k - 1,by omega⟩
            have hcp:w.cell? ⟨b,off + k1,none⟩ = some (.int .i64 (g k1)):=HCL.out k1 (by omega);obtain ⟨y,hy⟩:∃ y,y = g k1:=⟨_,rfl⟩
            have HY:Hid (y = g (k - 1)):=by show y = g (k - 1);rw [hy,show k - 1 = k1 by omega]
            rw [← hy] at hcp
            have wsub:IntKind.i64.wrap ((k:Int) - 1) = (k1:Int):=by rw [IntKind.wrap_i64];omega
            have hk1n:k1 < n:=by omega
            have e3:((0:Int) < (k:Int)):=by omega
            have HK1:Hid (k1 + 1 = k):=hk1;clear hy hk1
            by_cases h4:x ≤ y
            · have HNO:Hid (¬ RiseP n g most):=fun h => by have:=(h k hlt).2.2 h3;rw [← HX.out,← HY.out] at this;omega
              go_wp2
              go_quiet (fail)
              go_wp2;go_ret;exact boolNo rfl HNO.out (below_drewN (below_drewN (Below.refl _ _) _) _)
            · have e4:decide (x ≤ y) = false:=by simp;omega
              have HF:Hid (0 ≤ g k ∧ g k ≤ most ∧ (0 < k → g (k - 1) < g k)):=by
                show 0 ≤ g k ∧ g k ≤ most ∧ (0 < k → g (k - 1) < g k)
                rw [← HX.out,← HY.out];exact ⟨by omega,by omega,fun _ => by omega⟩
              go_wp2
              go_quiet (fail)
              go_wp2
              go_roundw
              case rel => exact ⟨k + 1,by omega,by go_num,fun i hi => by
                            by_cases c:i = k
                            · rw [c];exact HF.out
                            · exact HALL.out i (by omega),_,rfl⟩
              case measure => simp [intOf];omega
          · have HF:Hid (0 ≤ g k ∧ g k ≤ most):=by
              show 0 ≤ g k ∧ g k ≤ most
              rw [← HX.out];exact ⟨by omega,by omega⟩
            have e3:decide ((0:Int) < (k:Int)) = false:=by simp;omega
            have e3n:decide (0 < k) = false:=by simp;omega
            have HK0:Hid (k = 0):=by show k = 0;omega
            clear h3;go_wp2
            go_quiet (fail)
            go_wp2
            go_roundw
            case rel => exact ⟨k + 1,by omega,by go_num,fun i hi => by
                          have:=HK0.out
                          obtain rfl:i = k:=by omega
                          exact ⟨HF.out.1,HF.out.2,fun h => by omega⟩,_,rfl⟩
            case measure => simp [intOf];omega
    · obtain rfl:k = n:=by omega
      go_wp2;go_ret;exact boolYes rfl HALL.out (below_drewN (Below.refl _ _) _)
end Go.Proofs.YtfoidpcoiankoaaGreat
namespace Go.Proofs.YtfoidpcoiankoaaGreat
open F256
def Shp3 (d s:Int):Prop:=1 ≤ d ∧ d ≤ 4 ∧ 0 ≤ s ∧ s ≤ 2
def HasP (n:Nat) (g:Nat → Int) (x:Int):Prop:=∃ i,i < n ∧ g i = x
end Go.Proofs.YtfoidpcoiankoaaGreat
namespace Go.Proofs.YtfoidpcoiankoaaGreat
open Go.RowKit F256
structure BldO (wr:World) (lo hi:Nat) (v:Value) (k:Nat) (n:Nat → Nat) (f:Mat) (e:Nat → Value):Prop where
  row:wr.ownsRow lo 64 1 v k (valsOf k e)
  low:∀ b,v.ownBlock = some b → b < hi
  each:∀ i,i < k → Own wr lo hi (e i) (n i) (f i)
  apart:∀ i j,i < k → j < k → i ≠ j → ∀ b,(e i).ownBlock = some b → (e j).ownBlock ≠ some b
  le:lo ≤ hi
  le2:hi ≤ wr.heap.size
end Go.Proofs.YtfoidpcoiankoaaGreat
namespace Go.Proofs.YtfoidpcoiankoaaGreat
open Go.RowKit F256
theorem l3Shape_any (d s:Int) (w:World) :
    Calls Tryz.prog 77 #[.int .i64 d,.int .i64 s] w (BoolP (Shp3 d s) w):=by
  by_cases h1:1 ≤ d ∧ d ≤ 4
  · by_cases h2:0 ≤ s ∧ s ≤ 2
    · go_enter Tryz.func77,Tryz.ntmps77
      go_wp2_with fail
      refine (l1In_yes d 1 4 h1.1 h1.2 _).mono ?_;rintro e w1 ⟨rfl,rfl⟩
      go_wp2_with fail
      refine (l1In_yes s 0 2 h2.1 h2.2 _).mono ?_;rintro e w1 ⟨rfl,rfl⟩;go_wp2;go_ret;exact boolYes rfl ⟨h1.1,h1.2,h2.1,h2.2⟩ (Below.refl _ _)
    · go_enter Tryz.func77,Tryz.ntmps77
      go_wp2_with fail
      refine (l1In_yes d 1 4 h1.1 h1.2 _).mono ?_;rintro e w1 ⟨rfl,rfl⟩
      go_wp2_with fail
      refine (l1In_no s 0 2 (by omega) _).mono ?_;rintro e w1 ⟨rfl,rfl⟩;go_wp2;go_ret;exact boolNo rfl (fun h => h2 ⟨h.2.2.1,h.2.2.2⟩) (Below.refl _ _)
  · go_enter Tryz.func77,Tryz.ntmps77
    go_wp2_with fail
    refine (l1In_no d 1 4 (by omega) _).mono ?_;rintro e w1 ⟨rfl,rfl⟩;go_wp2;go_ret;exact boolNo rfl (fun h => h1 ⟨h.1,h.2.1⟩) (Below.refl _ _)
end Go.Proofs.YtfoidpcoiankoaaGreat
namespace Go.Proofs.YtfoidpcoiankoaaGreat
open Go.RowKit F256
set_option maxHeartbeats 2000000 in
theorem toShape_any (s:Nat → Int) (w:World) :
    Calls Tryz.prog 23 #[shapeV s] w fun e w' => e = .returned (shapeV s) ∧ Below w.heap.size w w':=by
  unfold shapeV;obtain ⟨a0,h0⟩:∃ a,a = s 0:=⟨_,rfl⟩;obtain ⟨a1,h1⟩:∃ a,a = s 1:=⟨_,rfl⟩;obtain ⟨a2,h2⟩:∃ a,a = s 2:=⟨_,rfl⟩;obtain ⟨a3,h3⟩:∃ a,a = s 3:=⟨_,rfl⟩;obtain ⟨a4,h4⟩:∃ a,a = s 4:=⟨_,rfl⟩;obtain ⟨a5,h5⟩:∃ a,a = s 5:=⟨_,rfl⟩;obtain ⟨a6,h6⟩:∃ a,a = s 6:=⟨_,rfl⟩;obtain ⟨a7,h7⟩:∃ a,a = s 7:=⟨_,rfl⟩;obtain ⟨a8,h8⟩:∃ a,a = s 8:=⟨_,rfl⟩;rw [← h0,← h1,← h2,← h3,← h4,← h5,← h6,← h7,← h8];clear h0 h1 h2 h3 h4 h5 h6 h7 h8
  go_enter Tryz.func23,Tryz.ntmps23
  go_wp2;refine bodyPost_ret (v:=.agg #[.int .i64 a0,.int .i64 a1,.int .i64 a2,.int .i64 a3,.int .i64 a4,.int .i64 a5,.int .i64 a6,.int .i64 a7,.int .i64 a8]) (by simp [results,Tryz.results23,go_sem]) rfl ⟨rfl,?_⟩;exact (((Below.refl _ _).alloc (Nat.le_refl _) _).alloc (by simp) _).alloc (by simp <;> omega) _
def OkShape (s:Nat → Int):Prop:=Shp3 (s 0) (s 1) ∧ Shp (s 2) (s 3) ∧ (1 ≤ s 4 ∧ s 4 ≤ 6) ∧ (1 ≤ s 5 ∧ s 5 ≤ 6) ∧ (1 ≤ s 6 ∧ s 6 ≤ 4) ∧ (1 ≤ s 7 ∧ s 7 ≤ 6) ∧ (0 ≤ s 8 ∧ s 8 ≤ 400)
def ShFAns (s:Nat → Int) (x:Int):Prop:=(x = 3 ∧ ¬ OkShape s) ∨ (x = 0 ∧ OkShape s)
theorem box9 {w:World} {b:Nat} {t:TypeId} {a0 a1 a2 a3 a4 a5 a6 a7 a8:Value} (h:Box w b #[a0,a1,a2,a3,a4,a5,a6,a7,a8] t) :
    w.cell? ⟨b,0,none⟩ = some a0 ∧ w.cell? ⟨b,1,none⟩ = some a1 ∧ w.cell? ⟨b,2,none⟩ = some a2 ∧ w.cell? ⟨b,3,none⟩ = some a3 ∧ w.cell? ⟨b,4,none⟩ = some a4 ∧ w.cell? ⟨b,5,none⟩ = some a5 ∧ w.cell? ⟨b,6,none⟩ = some a6 ∧ w.cell? ⟨b,7,none⟩ = some a7 ∧ w.cell? ⟨b,8,none⟩ = some a8 :=
  ⟨h.cell 0,h.cell 1,h.cell 2,h.cell 3,h.cell 4,h.cell 5,h.cell 6,h.cell 7,h.cell 8⟩
set_option maxHeartbeats 4000000 in
theorem specShape_any (s:Nat → Int) (w:World) :
    Calls Tryz.prog 44 #[shapeV s] w fun e w' => ∃ x,e = .returned (.int .i64 x) ∧ ShFAns s x ∧ Below w.heap.size w w':=by
  unfold shapeV;have HOK:Hid (OkShape s ↔ OkShape s):=Iff.rfl;unfold OkShape at HOK;obtain ⟨a0,h0⟩:∃ a,a = s 0:=⟨_,rfl⟩;obtain ⟨a1,h1⟩:∃ a,a = s 1:=⟨_,rfl⟩;obtain ⟨a2,h2⟩:∃ a,a = s 2:=⟨_,rfl⟩;obtain ⟨a3,h3⟩:∃ a,a = s 3:=⟨_,rfl⟩;obtain ⟨a4,h4⟩:∃ a,a = s 4:=⟨_,rfl⟩;obtain ⟨a5,h5⟩:∃ a,a = s 5:=⟨_,rfl⟩;obtain ⟨a6,h6⟩:∃ a,a = s 6:=⟨_,rfl⟩;obtain ⟨a7,h7⟩:∃ a,a = s 7:=⟨_,rfl⟩;obtain ⟨a8,h8⟩:∃ a,a = s 8:=⟨_,rfl⟩
  have HIFF:Hid (OkShape s ↔ (Shp3 a0 a1 ∧ Shp a2 a3 ∧ (1 ≤ a4 ∧ a4 ≤ 6) ∧ (1 ≤ a5 ∧ a5 ≤ 6) ∧ (1 ≤ a6 ∧ a6 ≤ 4) ∧ (1 ≤ a7 ∧ a7 ≤ 6) ∧ (0 ≤ a8 ∧ a8 ≤ 400))):=by
    show OkShape s ↔ _
    rw [h0,h1,h2,h3,h4,h5,h6,h7,h8];exact Iff.rfl
  rw [← h0,← h1,← h2,← h3,← h4,← h5,← h6,← h7,← h8];clear h0 h1 h2 h3 h4 h5 h6 h7 h8 HOK
  go_enter Tryz.func44,Tryz.ntmps44
  go_wp2_with fail
  refine (l3Shape_any a0 a1 _).mono ?_;rintro e w1 ⟨b1,rfl,hb1,b1'⟩;have X1:Box w1 w.heap.size #[.int .i64 a0,.int .i64 a1,.int .i64 a2,.int .i64 a3,.int .i64 a4,.int .i64 a5,.int .i64 a6,.int .i64 a7,.int .i64 a8] 33:=(box_new w _ _).below b1' (by simp);have B1:Below w.heap.size w w1:=bnew b1';have H1:Hid (b1 = true ↔ Shp3 a0 a1):=hb1;have z1:=X1.lt;obtain ⟨x0,x1,x2,x3,x4,x5,x6,x7,x8⟩:=box9 X1;clear hb1 b1'
  cases b1 with
  | false =>
    have HNO:Hid (¬ OkShape s):=fun h => by have:=H1.out.mpr (HIFF.out.mp h).1;cases this
    clear H1;go_wp2;go_ret;exact ⟨3,rfl,.inl ⟨rfl,HNO.out⟩,B1⟩
  | true =>
    have HS1:Hid (Shp3 a0 a1):=H1.out.mp rfl;clear H1
    go_wp2_with fail
    refine (l2Shape_any a2 a3 _).mono ?_;rintro e w2 ⟨b2,rfl,hb2,b2'⟩;have X2:=X1.below b2' z1;have B2:Below w.heap.size w w2:=B1.trans (b2'.mono B1.size);have H2:Hid (b2 = true ↔ Shp a2 a3):=hb2;clear x0 x1 x2 x3 x4 x5 x6 x7 x8;obtain ⟨x0,x1,x2,x3,x4,x5,x6,x7,x8⟩:=box9 X2;clear hb2 b2' X1 B1
    cases b2 with
    | false =>
      have HNO:Hid (¬ OkShape s):=fun h => by have:=H2.out.mpr (HIFF.out.mp h).2.1;cases this
      clear H2;go_wp2;go_ret;exact ⟨3,rfl,.inl ⟨rfl,HNO.out⟩,B2⟩
    | true =>
      have HS2:Hid (Shp a2 a3):=H2.out.mp rfl;clear H2
      by_cases c4:1 ≤ a4 ∧ a4 ≤ 6
      · by_cases c5:1 ≤ a5 ∧ a5 ≤ 6
        · by_cases c6:1 ≤ a6 ∧ a6 ≤ 4
          · by_cases c7:1 ≤ a7 ∧ a7 ≤ 6
            · by_cases c8:0 ≤ a8 ∧ a8 ≤ 400
              · have HY:Hid (OkShape s):=HIFF.out.mpr ⟨HS1.out,HS2.out,c4,c5,c6,c7,c8⟩
                go_wp2_with fail
                refine (l1In_yes a4 1 6 c4.1 c4.2 _).mono ?_;rintro e w3 ⟨rfl,hw⟩;obtain rfl:=hw.symm
                go_wp2_with fail
                refine (l1In_yes a5 1 6 c5.1 c5.2 _).mono ?_;rintro e w3 ⟨rfl,hw⟩;obtain rfl:=hw.symm
                go_wp2_with fail
                refine (l1In_yes a6 1 4 c6.1 c6.2 _).mono ?_;rintro e w3 ⟨rfl,hw⟩;obtain rfl:=hw.symm
                go_wp2_with fail
                refine (l1In_yes a7 1 6 c7.1 c7.2 _).mono ?_;rintro e w3 ⟨rfl,hw⟩;obtain rfl:=hw.symm
                go_wp2_with fail
                refine (l1In_yes a8 0 400 c8.1 c8.2 _).mono ?_;rintro e w3 ⟨rfl,hw⟩;obtain rfl:=hw.symm;go_wp2;go_ret;exact ⟨0,rfl,.inr ⟨rfl,HY.out⟩,B2⟩
              · have HN:Hid (¬ OkShape s):=fun h => c8 (HIFF.out.mp h).2.2.2.2.2.2
                have c8':a8 < 0 ∨ 400 < a8:=by omega
                clear c8
                go_wp2_with fail
                refine (l1In_yes a4 1 6 c4.1 c4.2 _).mono ?_;rintro e w3 ⟨rfl,hw⟩;obtain rfl:=hw.symm
                go_wp2_with fail
                refine (l1In_yes a5 1 6 c5.1 c5.2 _).mono ?_;rintro e w3 ⟨rfl,hw⟩;obtain rfl:=hw.symm
                go_wp2_with fail
                refine (l1In_yes a6 1 4 c6.1 c6.2 _).mono ?_;rintro e w3 ⟨rfl,hw⟩;obtain rfl:=hw.symm
                go_wp2_with fail
                refine (l1In_yes a7 1 6 c7.1 c7.2 _).mono ?_;rintro e w3 ⟨rfl,hw⟩;obtain rfl:=hw.symm
                go_wp2_with fail
                refine (l1In_no a8 0 400 c8' _).mono ?_;rintro e w3 ⟨rfl,hw⟩;obtain rfl:=hw.symm;go_wp2;go_ret;exact ⟨3,rfl,.inl ⟨rfl,HN.out⟩,B2⟩
            · have HN:Hid (¬ OkShape s):=fun h => c7 (HIFF.out.mp h).2.2.2.2.2.1
              have c7':a7 < 1 ∨ 6 < a7:=by omega
              clear c7
              go_wp2_with fail
              refine (l1In_yes a4 1 6 c4.1 c4.2 _).mono ?_;rintro e w3 ⟨rfl,hw⟩;obtain rfl:=hw.symm
              go_wp2_with fail
              refine (l1In_yes a5 1 6 c5.1 c5.2 _).mono ?_;rintro e w3 ⟨rfl,hw⟩;obtain rfl:=hw.symm
              go_wp2_with fail
              refine (l1In_yes a6 1 4 c6.1 c6.2 _).mono ?_;rintro e w3 ⟨rfl,hw⟩;obtain rfl:=hw.symm
              go_wp2_with fail
              refine (l1In_no a7 1 6 c7' _).mono ?_;rintro e w3 ⟨rfl,hw⟩;obtain rfl:=hw.symm;go_wp2;go_ret;exact ⟨3,rfl,.inl ⟨rfl,HN.out⟩,B2⟩
          · have HN:Hid (¬ OkShape s):=fun h => c6 (HIFF.out.mp h).2.2.2.2.1
            have c6':a6 < 1 ∨ 4 < a6:=by omega
            clear c6
            go_wp2_with fail
            refine (l1In_yes a4 1 6 c4.1 c4.2 _).mono ?_;rintro e w3 ⟨rfl,hw⟩;obtain rfl:=hw.symm
            go_wp2_with fail
            refine (l1In_yes a5 1 6 c5.1 c5.2 _).mono ?_;rintro e w3 ⟨rfl,hw⟩;obtain rfl:=hw.symm
            go_wp2_with fail
            refine (l1In_no a6 1 4 c6' _).mono ?_;rintro e w3 ⟨rfl,hw⟩;obtain rfl:=hw.symm;go_wp2;go_ret;exact ⟨3,rfl,.inl ⟨rfl,HN.out⟩,B2⟩
        · have HN:Hid (¬ OkShape s):=fun h => c5 (HIFF.out.mp h).2.2.2.1
          have c5':a5 < 1 ∨ 6 < a5:=by omega
          clear c5
          go_wp2_with fail
          refine (l1In_yes a4 1 6 c4.1 c4.2 _).mono ?_;rintro e w3 ⟨rfl,hw⟩;obtain rfl:=hw.symm
          go_wp2_with fail
          refine (l1In_no a5 1 6 c5' _).mono ?_;rintro e w3 ⟨rfl,hw⟩;obtain rfl:=hw.symm;go_wp2;go_ret;exact ⟨3,rfl,.inl ⟨rfl,HN.out⟩,B2⟩
      · have HN:Hid (¬ OkShape s):=fun h => c4 (HIFF.out.mp h).2.2.1
        have c4':a4 < 1 ∨ 6 < a4:=by omega
        clear c4
        go_wp2_with fail
        refine (l1In_no a4 1 6 c4' _).mono ?_;rintro e w3 ⟨rfl,hw⟩;obtain rfl:=hw.symm;go_wp2;go_ret;exact ⟨3,rfl,.inl ⟨rfl,HN.out⟩,B2⟩
end Go.Proofs.YtfoidpcoiankoaaGreat
namespace Go.Proofs.YtfoidpcoiankoaaGreat
open Go.RowKit F256
set_option maxHeartbeats 8000000 in
set_option maxRecDepth 20000 in
theorem toBlock_is:ToV layBlock szBlockD 137:=fun cs d hi w r hhi hn => by
  obtain ⟨ao1,cap1,rfl,h1,k0⟩:=Block_rd r;clear r;unfold szBlockD at hn;have R1:Hid (layBytes.rd w hi d.bytes [.slice ao1 d.bytes.1 cap1]):=h1;clear h1;have Q0:Hid ((-9223372036854775808 ≤ d.stamp ∧ d.stamp ≤ 9223372036854775807)):=k0;clear k0
  go_enter Tryz.func137,Tryz.ntmps137
  go_wp2_with fail
  have T0:=three_newb w #[.int .i64 d.stamp,.slice ao1 d.bytes.1 cap1] #[.int .i64 0,.slice none 0 0] #[.int .i64 d.stamp,.slice none 0 0] 183 135 135;refine (toBytes_is _ d.bytes hi _ (layBytes.rd_below R1.out T0.bel hhi) (Nat.le_trans hhi T0.bel.size) (by omega)).mono ?_;rintro e w1 ⟨v1,rfl,o1,b1⟩;have L1:=T0.lt;obtain ⟨bo1,bcap1,hv⟩:=bytes_formT o1;obtain rfl:=one_eq hv;clear hv;have T1:Three w w1 #[.int .i64 d.stamp,.slice ao1 d.bytes.1 cap1] #[.int .i64 0,.slice none 0 0] #[.int .i64 d.stamp,.slice none 0 0] 183 135 135:=T0.call b1;have O1:Hid (OwnT layBytes w1 (w.heap.size + 1 + 1 + 1) (w1.heap.size) d.bytes [.slice bo1 d.bytes.1 bcap1]):=o1.weaken (by simp <;> omega) (Nat.le_refl _);clear o1;have LT1:w.heap.size + 1 + 1 + 1 ≤ w1.heap.size:=T1.lt;have y1_0:w1.cell? ⟨w.heap.size + 1 + 1,0,none⟩ = some (.int .i64 d.stamp):=T1.b3.cell 0;have y1_1:w1.cell? ⟨w.heap.size + 1 + 1,1,none⟩ = some (.slice none 0 0):=T1.b3.cell 1;have yf1_1:w1.frozen? ⟨w.heap.size + 1 + 1,1,none⟩ = false:=T1.b3.frozen 1;have z1_0:w1.cell? ⟨w.heap.size + 1,0,none⟩ = some (.int .i64 0):=T1.b2.cell 0;have zf1_0:w1.frozen? ⟨w.heap.size + 1,0,none⟩ = false:=T1.b2.frozen 0;have z1_1:w1.cell? ⟨w.heap.size + 1,1,none⟩ = some (.slice none 0 0):=T1.b2.cell 1;have zf1_1:w1.frozen? ⟨w.heap.size + 1,1,none⟩ = false:=T1.b2.frozen 1;have Bq:Hid (Below w.heap.size w w1):=T1.bel;clear T1 b1;go_wp2;refine bodyPost_ret (v:=.agg #[.int .i64 d.stamp,.slice bo1 d.bytes.1 bcap1]) (by simp [results,Tryz.results137,go_sem,y1_0,z1_0,y1_1,z1_1]) rfl ?_;have F:OwnT layBlock w1 (w.heap.size + 1 + 1 + 1) w1.heap.size d ([.int .i64 d.stamp] ++ [.slice bo1 d.bytes.1 bcap1]):=OwnT.conv (OwnT.pre (A:=layI) (a:=d.stamp) (c:=[.int .i64 d.stamp]) ⟨rfl,Q0.out,rfl⟩ (O1.out));exact ⟨[.int .i64 d.stamp,.slice bo1 d.bytes.1 bcap1],rfl,OwnT.fin F 1 0 [.slice bo1 d.bytes.1 bcap1] [.int .i64 d.stamp,.slice bo1 d.bytes.1 bcap1] _ rfl,below_fin Bq.out 1 0 [.slice bo1 d.bytes.1 bcap1] [.int .i64 d.stamp,.slice bo1 d.bytes.1 bcap1] _ rfl⟩
theorem info_BlockS:(Tryz.prog.info? 135).map (fun i => (i.zero.map (·.cells),i.size,i.bytes)) = some (some #[.int .i64 0,.slice none 0 0],2,32):=by kernel_rfl
set_option maxHeartbeats 4000000 in
theorem toBlockS_is:ToS (layBlock.slice 135) (szSl szBlockD) 116:=fun v d hi w h hhi hn => by
  obtain ⟨n,x⟩:=d;obtain ⟨ao,cap,hv,hm,hc⟩:=h
  cases hv
  have hn1:=szSl_n hn;have hn2:∀ i,i < n → szBlockD (x i) ≤ 1048576:=fun i hi => szSl_at hn hi
  simp only at hn1 hm hc
  clear hn
  go_enter Tryz.func116,Tryz.ntmps116
  go_wp2_with (at_make;refine wp_makeT layBlock [.int .i64 0,.slice none 0 0] _ 135 32 (by decide) rfl Tryz.underlying131 info_BlockS x (fun _ => []) _ rfl _ _ rfl _ _ n rfl rfl rfl rfl (by omega) (by omega) ?_;intro w1 sp1 hb1)
  go_loopw [4] (fun i wr => ∃ k:Nat,k ≤ n ∧ i = .int .i64 k ∧ ∃ ce Ls,SlP layBlock 135 wr w.heap.size w.heap.size n n k x ce Ls ∧ Below w.heap.size w wr) (fun i _ => n - (intOf i).toNat)
  case atStart => exact ⟨0,Nat.zero_le _,rfl,_,_,sp1,hb1⟩
  case round =>
    clear sp1 hb1;obtain ⟨k,hk,rfl,ce,Ls,sp,hb⟩:=hrel
    by_cases hlt:k < n
    · obtain ⟨b,off,rfl,hblt,hel⟩:=hc (by omega)
      obtain ⟨ck,hrk,hcell⟩:=elem_rd (t:=0) hel hb hhi hblt hlt;obtain ⟨ao1,cap1,rfl,-⟩:=Block_rd hrk;have c0:wr.cell? ⟨b,off + k * 2,none⟩ = some (.int .i64 (x k).stamp):=hcell 0 (by decide);have c1:wr.cell? ⟨b,off + k * 2 + 1,none⟩ = some (.slice ao1 (x k).bytes.1 cap1):=hcell 1 (by decide);clear hc hel hcell
      go_wp2_with fail
      refine (toBlock_is _ (x k) hi wr hrk (Nat.le_trans hhi hb.size) (hn2 k hlt)).mono ?_;rintro e w2 ⟨cs',rfl,o2,hb2⟩;obtain ⟨bao1,bcap1,rfl⟩:=Block_cells o2;obtain ⟨z0,s0⟩:=sp.some hb2 hlt (show 0 < layBlock.sz by decide);have s0:w2.cell? ⟨w.heap.size,k * 2,none⟩ = some z0:=s0;have sf0:=(sp.below hb2).frozen (k * 2);obtain ⟨z1,s1⟩:=sp.some hb2 hlt (show 1 < layBlock.sz by decide);have s1:w2.cell? ⟨w.heap.size,k * 2 + 1,none⟩ = some z1:=s1;have sf1:=(sp.below hb2).frozen (k * 2 + 1);have N:=sp.next hb2 hlt o2 hb.size;have N2:Below w.heap.size w (stN w2 w.heap.size (k * layBlock.sz) [.int .i64 (x k).stamp,.slice bao1 (x k).bytes.1 bcap1]):=(hb.trans (hb2.mono hb.size)).trans (stN_below (Nat.le_refl _) _ _);clear o2 hb2 sp hb
      go_wp2_with fail
      go_roundw
      case rel =>
        obtain ⟨ce',Ls',N⟩:=N;exact ⟨k + 1,by omega,by go_num,ce',Ls',N,N2⟩
      case measure => simp [intOf];omega
    · obtain rfl:k = n:=by omega
      go_wp2;go_ret;exact ⟨_,rfl,sp.done (Nat.le_refl _),hb⟩
set_option maxHeartbeats 8000000 in
set_option maxRecDepth 20000 in
theorem toDrive_is:ToV layDrive szDriveD 88:=fun cs d hi w r hhi hn => by
  obtain ⟨ao1,cap1,rfl,h1⟩:=Drive_rd r;clear r;unfold szDriveD at hn;have R1:Hid ((layBlock.slice 135).rd w hi d.blocks [.slice ao1 d.blocks.1 cap1]):=h1;clear h1
  go_enter Tryz.func88,Tryz.ntmps88
  go_wp2_with fail
  have T0:=three_newb w #[.bool d.wiped,.slice ao1 d.blocks.1 cap1] #[.bool false,.slice none 0 0] #[.bool d.wiped,.slice none 0 0] 128 133 133;refine (toBlockS_is _ d.blocks hi _ ((layBlock.slice 135).rd_below R1.out T0.bel hhi) (Nat.le_trans hhi T0.bel.size) (by omega)).mono ?_;rintro e w1 ⟨v1,rfl,o1,b1⟩;have L1:=T0.lt;obtain ⟨bo1,bcap1,hv⟩:=sl_formT o1;obtain rfl:=one_eq hv;clear hv;have T1:Three w w1 #[.bool d.wiped,.slice ao1 d.blocks.1 cap1] #[.bool false,.slice none 0 0] #[.bool d.wiped,.slice none 0 0] 128 133 133:=T0.call b1;have O1:Hid (OwnT (layBlock.slice 135) w1 (w.heap.size + 1 + 1 + 1) (w1.heap.size) d.blocks [.slice bo1 d.blocks.1 bcap1]):=o1.weaken (by simp <;> omega) (Nat.le_refl _);clear o1;have LT1:w.heap.size + 1 + 1 + 1 ≤ w1.heap.size:=T1.lt;have y1_0:w1.cell? ⟨w.heap.size + 1 + 1,0,none⟩ = some (.bool d.wiped):=T1.b3.cell 0;have y1_1:w1.cell? ⟨w.heap.size + 1 + 1,1,none⟩ = some (.slice none 0 0):=T1.b3.cell 1;have yf1_1:w1.frozen? ⟨w.heap.size + 1 + 1,1,none⟩ = false:=T1.b3.frozen 1;have z1_0:w1.cell? ⟨w.heap.size + 1,0,none⟩ = some (.bool false):=T1.b2.cell 0;have zf1_0:w1.frozen? ⟨w.heap.size + 1,0,none⟩ = false:=T1.b2.frozen 0;have z1_1:w1.cell? ⟨w.heap.size + 1,1,none⟩ = some (.slice none 0 0):=T1.b2.cell 1;have zf1_1:w1.frozen? ⟨w.heap.size + 1,1,none⟩ = false:=T1.b2.frozen 1;have Bq:Hid (Below w.heap.size w w1):=T1.bel;clear T1 b1;go_wp2;refine bodyPost_ret (v:=.agg #[.bool d.wiped,.slice bo1 d.blocks.1 bcap1]) (by simp [results,Tryz.results88,go_sem,y1_0,z1_0,y1_1,z1_1]) rfl ?_;have F:OwnT layDrive w1 (w.heap.size + 1 + 1 + 1) w1.heap.size d ([.bool d.wiped] ++ [.slice bo1 d.blocks.1 bcap1]):=OwnT.conv (OwnT.pre (A:=layB) (a:=d.wiped) (c:=[.bool d.wiped]) ⟨rfl,trivial,rfl⟩ (O1.out));exact ⟨[.bool d.wiped,.slice bo1 d.blocks.1 bcap1],rfl,OwnT.fin F 1 0 [.slice bo1 d.blocks.1 bcap1] [.bool d.wiped,.slice bo1 d.blocks.1 bcap1] _ rfl,below_fin Bq.out 1 0 [.slice bo1 d.blocks.1 bcap1] [.bool d.wiped,.slice bo1 d.blocks.1 bcap1] _ rfl⟩
theorem info_DriveS:(Tryz.prog.info? 133).map (fun i => (i.zero.map (·.cells),i.size,i.bytes)) = some (some #[.bool false,.slice none 0 0],2,32):=by kernel_rfl
set_option maxHeartbeats 4000000 in
theorem toDriveS_is:ToS (layDrive.slice 133) (szSl szDriveD) 52:=fun v d hi w h hhi hn => by
  obtain ⟨n,x⟩:=d;obtain ⟨ao,cap,hv,hm,hc⟩:=h
  cases hv
  have hn1:=szSl_n hn;have hn2:∀ i,i < n → szDriveD (x i) ≤ 1048576:=fun i hi => szSl_at hn hi
  simp only at hn1 hm hc
  clear hn
  go_enter Tryz.func52,Tryz.ntmps52
  go_wp2_with (at_make;refine wp_makeT layDrive [.bool false,.slice none 0 0] _ 133 32 (by decide) rfl Tryz.underlying92 info_DriveS x (fun _ => []) _ rfl _ _ rfl _ _ n rfl rfl rfl rfl (by omega) (by omega) ?_;intro w1 sp1 hb1)
  go_loopw [4] (fun i wr => ∃ k:Nat,k ≤ n ∧ i = .int .i64 k ∧ ∃ ce Ls,SlP layDrive 133 wr w.heap.size w.heap.size n n k x ce Ls ∧ Below w.heap.size w wr) (fun i _ => n - (intOf i).toNat)
  case atStart => exact ⟨0,Nat.zero_le _,rfl,_,_,sp1,hb1⟩
  case round =>
    clear sp1 hb1;obtain ⟨k,hk,rfl,ce,Ls,sp,hb⟩:=hrel
    by_cases hlt:k < n
    · obtain ⟨b,off,rfl,hblt,hel⟩:=hc (by omega)
      obtain ⟨ck,hrk,hcell⟩:=elem_rd (t:=0) hel hb hhi hblt hlt;obtain ⟨ao1,cap1,rfl,-⟩:=Drive_rd hrk;have c0:wr.cell? ⟨b,off + k * 2,none⟩ = some (.bool (x k).wiped):=hcell 0 (by decide);have c1:wr.cell? ⟨b,off + k * 2 + 1,none⟩ = some (.slice ao1 (x k).blocks.1 cap1):=hcell 1 (by decide);clear hc hel hcell
      go_wp2_with fail
      refine (toDrive_is _ (x k) hi wr hrk (Nat.le_trans hhi hb.size) (hn2 k hlt)).mono ?_;rintro e w2 ⟨cs',rfl,o2,hb2⟩;obtain ⟨bao1,bcap1,rfl⟩:=Drive_cells o2;obtain ⟨z0,s0⟩:=sp.some hb2 hlt (show 0 < layDrive.sz by decide);have s0:w2.cell? ⟨w.heap.size,k * 2,none⟩ = some z0:=s0;have sf0:=(sp.below hb2).frozen (k * 2);obtain ⟨z1,s1⟩:=sp.some hb2 hlt (show 1 < layDrive.sz by decide);have s1:w2.cell? ⟨w.heap.size,k * 2 + 1,none⟩ = some z1:=s1;have sf1:=(sp.below hb2).frozen (k * 2 + 1);have N:=sp.next hb2 hlt o2 hb.size;have N2:Below w.heap.size w (stN w2 w.heap.size (k * layDrive.sz) [.bool (x k).wiped,.slice bao1 (x k).blocks.1 bcap1]):=(hb.trans (hb2.mono hb.size)).trans (stN_below (Nat.le_refl _) _ _);clear o2 hb2 sp hb
      go_wp2_with fail
      go_roundw
      case rel =>
        obtain ⟨ce',Ls',N⟩:=N;exact ⟨k + 1,by omega,by go_num,ce',Ls',N,N2⟩
      case measure => simp [intOf];omega
    · obtain rfl:k = n:=by omega
      go_wp2;go_ret;exact ⟨_,rfl,sp.done (Nat.le_refl _),hb⟩
theorem info_DriveSS:(Tryz.prog.info? 92).map (fun i => (i.zero.map (·.cells),i.size,i.bytes)) = some (some #[.slice none 0 0],1,24):=by kernel_rfl
set_option maxHeartbeats 4000000 in
theorem toDriveSS_is:ToS ((layDrive.slice 133).slice 92) (szSl (szSl szDriveD)) 24:=fun v d hi w h hhi hn => by
  obtain ⟨n,x⟩:=d;obtain ⟨ao,cap,hv,hm,hc⟩:=h
  cases hv
  have hn1:=szSl_n hn;have hn2:∀ i,i < n → (szSl szDriveD) (x i) ≤ 1048576:=fun i hi => szSl_at hn hi
  simp only at hn1 hm hc
  clear hn
  go_enter Tryz.func24,Tryz.ntmps24
  go_wp2_with (at_make;refine wp_makeT (layDrive.slice 133) [.slice none 0 0] _ 92 24 (by decide) rfl Tryz.underlying34 info_DriveSS x (fun _ => []) _ rfl _ _ rfl _ _ n rfl rfl rfl rfl (by omega) (by omega) ?_;intro w1 sp1 hb1)
  go_loopw [4] (fun i wr => ∃ k:Nat,k ≤ n ∧ i = .int .i64 k ∧ ∃ ce Ls,SlP (layDrive.slice 133) 92 wr w.heap.size w.heap.size n n k x ce Ls ∧ Below w.heap.size w wr) (fun i _ => n - (intOf i).toNat)
  case atStart => exact ⟨0,Nat.zero_le _,rfl,_,_,sp1,hb1⟩
  case round =>
    clear sp1 hb1;obtain ⟨k,hk,rfl,ce,Ls,sp,hb⟩:=hrel
    by_cases hlt:k < n
    · obtain ⟨b,off,rfl,hblt,hel⟩:=hc (by omega)
      obtain ⟨ck,hrk,hcell⟩:=elem_rd (t:=0) hel hb hhi hblt hlt;obtain ⟨ao9,cap9,rfl⟩:=sl_form hrk
      have c0:wr.cell? ⟨b,off + k,none⟩ = some (.slice ao9 (x k).1 cap9):=by
        have h:=hcell 0 (show 0 < 1 by decide);rw [show (layDrive.slice 133).sz = 1 from rfl,Nat.mul_one,Nat.add_zero] at h;exact h
      clear hc hel hcell
      go_wp2_with fail
      refine (toDriveS_is _ (x k) hi wr hrk (Nat.le_trans hhi hb.size) (hn2 k hlt)).mono ?_;rintro e w2 ⟨v',rfl,o2,hb2⟩;obtain ⟨bao9,bcap9,hv'⟩:=sl_formT o2;obtain rfl:=one_eq hv';clear hv';obtain ⟨z0,s0⟩:=sp.some hb2 hlt (show 0 < (layDrive.slice 133).sz by decide);rw [show (layDrive.slice 133).sz = 1 from rfl,Nat.mul_one,Nat.add_zero] at s0;have sf0:=(sp.below hb2).frozen k;have N:=sp.next hb2 hlt o2 hb.size;have N2:Below w.heap.size w (stN w2 w.heap.size (k * (layDrive.slice 133).sz) [.slice bao9 (x k).1 bcap9]):=(hb.trans (hb2.mono hb.size)).trans (stN_below (Nat.le_refl _) _ _);rw [show (layDrive.slice 133).sz = 1 from rfl,Nat.mul_one] at N N2;clear o2 hb2 sp hb
      go_wp2_with fail
      go_roundw
      case rel =>
        obtain ⟨ce',Ls',N⟩:=N;exact ⟨k + 1,by omega,by go_num,ce',Ls',N,N2⟩
      case measure => simp [intOf];omega
    · obtain rfl:k = n:=by omega
      go_wp2;go_ret;exact ⟨_,rfl,sp.done (Nat.le_refl _),hb⟩
end Go.Proofs.YtfoidpcoiankoaaGreat
namespace Go.Proofs.YtfoidpcoiankoaaGreat
open Go.RowKit F256
set_option maxHeartbeats 8000000 in
set_option maxRecDepth 20000 in
theorem toRec_is:ToV layRec szRecD 117:=fun cs d hi w r hhi hn => by
  obtain ⟨ao6,cap6,ao7,cap7,ao8,cap8,rfl,h6,h7,h8,k0,k1,k2,k3,k4,k5⟩:=Rec_rd r;clear r;unfold szRecD at hn;have R6:Hid (layInts.rd w hi d.rows [.slice ao6 d.rows.1 cap6]):=h6;have R7:Hid (layBytes.rd w hi d.data [.slice ao7 d.data.1 cap7]):=h7;have R8:Hid (layBytes.rd w hi d.delta [.slice ao8 d.delta.1 cap8]):=h8;clear h6 h7 h8;have Q0:Hid ((-9223372036854775808 ≤ d.kind ∧ d.kind ≤ 9223372036854775807)):=k0;have Q1:Hid ((-9223372036854775808 ≤ d.seq ∧ d.seq ≤ 9223372036854775807)):=k1;have Q2:Hid (d.name.size ≤ maxLen):=k2;have Q3:Hid ((-9223372036854775808 ≤ d.length ∧ d.length ≤ 9223372036854775807)):=k3;have Q4:Hid ((-9223372036854775808 ≤ d.group ∧ d.group ≤ 9223372036854775807)):=k4;have Q5:Hid ((-9223372036854775808 ≤ d.row ∧ d.row ≤ 9223372036854775807)):=k5;clear k0 k1 k2 k3 k4 k5
  go_enter Tryz.func117,Tryz.ntmps117
  go_wp2_with fail
  have T0:=three_newb w #[.int .i64 d.kind,.int .i64 d.seq,.string d.name,.int .i64 d.length,.int .i64 d.group,.int .i64 d.row,.slice ao6 d.rows.1 cap6,.slice ao7 d.data.1 cap7,.slice ao8 d.delta.1 cap8] #[.int .i64 0,.int .i64 0,.string ByteArray.empty,.int .i64 0,.int .i64 0,.int .i64 0,.slice none 0 0,.slice none 0 0,.slice none 0 0] #[.int .i64 d.kind,.int .i64 d.seq,.string d.name,.int .i64 d.length,.int .i64 d.group,.int .i64 d.row,.slice none 0 0,.slice none 0 0,.slice none 0 0] 165 66 66;refine (toInts_is _ d.rows hi _ (layInts.rd_below R6.out T0.bel hhi) (Nat.le_trans hhi T0.bel.size) (by omega)).mono ?_;rintro e w1 ⟨v1,rfl,o1,b1⟩;have L1:=T0.lt;obtain ⟨bo6,bcap6,hv⟩:=ints_formT o1;obtain rfl:=one_eq hv;clear hv;have T1:Three w w1 #[.int .i64 d.kind,.int .i64 d.seq,.string d.name,.int .i64 d.length,.int .i64 d.group,.int .i64 d.row,.slice ao6 d.rows.1 cap6,.slice ao7 d.data.1 cap7,.slice ao8 d.delta.1 cap8] #[.int .i64 0,.int .i64 0,.string ByteArray.empty,.int .i64 0,.int .i64 0,.int .i64 0,.slice none 0 0,.slice none 0 0,.slice none 0 0] #[.int .i64 d.kind,.int .i64 d.seq,.string d.name,.int .i64 d.length,.int .i64 d.group,.int .i64 d.row,.slice none 0 0,.slice none 0 0,.slice none 0 0] 165 66 66:=T0.call b1;have O6:Hid (OwnT layInts w1 (w.heap.size + 1 + 1 + 1) (w1.heap.size) d.rows [.slice bo6 d.rows.1 bcap6]):=o1.weaken (by simp <;> omega) (Nat.le_refl _);clear o1;have LT1:w.heap.size + 1 + 1 + 1 ≤ w1.heap.size:=T1.lt;have x1_7:w1.cell? ⟨w.heap.size,7,none⟩ = some (.slice ao7 d.data.1 cap7):=T1.b1.cell 7;have y1_6:w1.cell? ⟨w.heap.size + 1 + 1,6,none⟩ = some (.slice none 0 0):=T1.b3.cell 6;have yf1_6:w1.frozen? ⟨w.heap.size + 1 + 1,6,none⟩ = false:=T1.b3.frozen 6;have V1:Three w (w1.setCell ⟨w.heap.size + 1 + 1,6,none⟩ (.slice bo6 d.rows.1 bcap6)) #[.int .i64 d.kind,.int .i64 d.seq,.string d.name,.int .i64 d.length,.int .i64 d.group,.int .i64 d.row,.slice ao6 d.rows.1 cap6,.slice ao7 d.data.1 cap7,.slice ao8 d.delta.1 cap8] #[.int .i64 0,.int .i64 0,.string ByteArray.empty,.int .i64 0,.int .i64 0,.int .i64 0,.slice none 0 0,.slice none 0 0,.slice none 0 0] #[.int .i64 d.kind,.int .i64 d.seq,.string d.name,.int .i64 d.length,.int .i64 d.group,.int .i64 d.row,.slice bo6 d.rows.1 bcap6,.slice none 0 0,.slice none 0 0] 165 66 66:=T1.st3 6 [.slice bo6 d.rows.1 bcap6] (c3':=[.int .i64 d.kind,.int .i64 d.seq,.string d.name,.int .i64 d.length,.int .i64 d.group,.int .i64 d.row,.slice bo6 d.rows.1 bcap6,.slice none 0 0,.slice none 0 0]) rfl;clear T1 b1
  go_wp2_with fail
  refine (toBytes_is _ d.data hi _ (layBytes.rd_below R7.out V1.bel hhi) (Nat.le_trans hhi V1.bel.size) (by omega)).mono ?_;rintro e w2 ⟨v2,rfl,o2,b2⟩;have L2:=V1.lt;obtain ⟨bo7,bcap7,hv⟩:=bytes_formT o2;obtain rfl:=one_eq hv;clear hv;have T2:Three w w2 #[.int .i64 d.kind,.int .i64 d.seq,.string d.name,.int .i64 d.length,.int .i64 d.group,.int .i64 d.row,.slice ao6 d.rows.1 cap6,.slice ao7 d.data.1 cap7,.slice ao8 d.delta.1 cap8] #[.int .i64 0,.int .i64 0,.string ByteArray.empty,.int .i64 0,.int .i64 0,.int .i64 0,.slice none 0 0,.slice none 0 0,.slice none 0 0] #[.int .i64 d.kind,.int .i64 d.seq,.string d.name,.int .i64 d.length,.int .i64 d.group,.int .i64 d.row,.slice bo6 d.rows.1 bcap6,.slice none 0 0,.slice none 0 0] 165 66 66:=V1.call b2;have O6x:OwnT layInts w2 (w.heap.size + 1 + 1 + 1) (w1.heap.size) d.rows [.slice bo6 d.rows.1 bcap6]:=((O6.out).set (show w.heap.size + 1 + 1 < _ by omega)).call b2;clear O6;have O6:Hid (OwnT layInts w2 (w.heap.size + 1 + 1 + 1) (w1.heap.size) d.rows [.slice bo6 d.rows.1 bcap6]):=O6x;clear O6x;have O7:Hid (OwnT layBytes w2 (w1.heap.size) (w2.heap.size) d.data [.slice bo7 d.data.1 bcap7]):=o2.weaken (by simp <;> omega) (Nat.le_refl _);clear o2;have LT2:w.heap.size + 1 + 1 + 1 ≤ w2.heap.size:=T2.lt
  have S2:w1.heap.size ≤ w2.heap.size:=by
    have:=b2.size
    simpa using this
  have x2_8:w2.cell? ⟨w.heap.size,8,none⟩ = some (.slice ao8 d.delta.1 cap8):=T2.b1.cell 8;have y2_7:w2.cell? ⟨w.heap.size + 1 + 1,7,none⟩ = some (.slice none 0 0):=T2.b3.cell 7;have yf2_7:w2.frozen? ⟨w.heap.size + 1 + 1,7,none⟩ = false:=T2.b3.frozen 7;have V2:Three w (w2.setCell ⟨w.heap.size + 1 + 1,7,none⟩ (.slice bo7 d.data.1 bcap7)) #[.int .i64 d.kind,.int .i64 d.seq,.string d.name,.int .i64 d.length,.int .i64 d.group,.int .i64 d.row,.slice ao6 d.rows.1 cap6,.slice ao7 d.data.1 cap7,.slice ao8 d.delta.1 cap8] #[.int .i64 0,.int .i64 0,.string ByteArray.empty,.int .i64 0,.int .i64 0,.int .i64 0,.slice none 0 0,.slice none 0 0,.slice none 0 0] #[.int .i64 d.kind,.int .i64 d.seq,.string d.name,.int .i64 d.length,.int .i64 d.group,.int .i64 d.row,.slice bo6 d.rows.1 bcap6,.slice bo7 d.data.1 bcap7,.slice none 0 0] 165 66 66:=T2.st3 7 [.slice bo7 d.data.1 bcap7] (c3':=[.int .i64 d.kind,.int .i64 d.seq,.string d.name,.int .i64 d.length,.int .i64 d.group,.int .i64 d.row,.slice bo6 d.rows.1 bcap6,.slice bo7 d.data.1 bcap7,.slice none 0 0]) rfl;clear T2 b2
  go_wp2_with fail
  refine (toBytes_is _ d.delta hi _ (layBytes.rd_below R8.out V2.bel hhi) (Nat.le_trans hhi V2.bel.size) (by omega)).mono ?_;rintro e w3 ⟨v3,rfl,o3,b3⟩;have L3:=V2.lt;obtain ⟨bo8,bcap8,hv⟩:=bytes_formT o3;obtain rfl:=one_eq hv;clear hv;have T3:Three w w3 #[.int .i64 d.kind,.int .i64 d.seq,.string d.name,.int .i64 d.length,.int .i64 d.group,.int .i64 d.row,.slice ao6 d.rows.1 cap6,.slice ao7 d.data.1 cap7,.slice ao8 d.delta.1 cap8] #[.int .i64 0,.int .i64 0,.string ByteArray.empty,.int .i64 0,.int .i64 0,.int .i64 0,.slice none 0 0,.slice none 0 0,.slice none 0 0] #[.int .i64 d.kind,.int .i64 d.seq,.string d.name,.int .i64 d.length,.int .i64 d.group,.int .i64 d.row,.slice bo6 d.rows.1 bcap6,.slice bo7 d.data.1 bcap7,.slice none 0 0] 165 66 66:=V2.call b3;have O6x:OwnT layInts w3 (w.heap.size + 1 + 1 + 1) (w1.heap.size) d.rows [.slice bo6 d.rows.1 bcap6]:=((O6.out).set (show w.heap.size + 1 + 1 < _ by omega)).call b3;clear O6;have O6:Hid (OwnT layInts w3 (w.heap.size + 1 + 1 + 1) (w1.heap.size) d.rows [.slice bo6 d.rows.1 bcap6]):=O6x;clear O6x;have O7x:OwnT layBytes w3 (w1.heap.size) (w2.heap.size) d.data [.slice bo7 d.data.1 bcap7]:=((O7.out).set (show w.heap.size + 1 + 1 < _ by omega)).call b3;clear O7;have O7:Hid (OwnT layBytes w3 (w1.heap.size) (w2.heap.size) d.data [.slice bo7 d.data.1 bcap7]):=O7x;clear O7x;have O8:Hid (OwnT layBytes w3 (w2.heap.size) (w3.heap.size) d.delta [.slice bo8 d.delta.1 bcap8]):=o3.weaken (by simp <;> omega) (Nat.le_refl _);clear o3;have LT3:w.heap.size + 1 + 1 + 1 ≤ w3.heap.size:=T3.lt
  have S3:w2.heap.size ≤ w3.heap.size:=by
    have:=b3.size
    simpa using this
  have y3_0:w3.cell? ⟨w.heap.size + 1 + 1,0,none⟩ = some (.int .i64 d.kind):=T3.b3.cell 0;have y3_1:w3.cell? ⟨w.heap.size + 1 + 1,1,none⟩ = some (.int .i64 d.seq):=T3.b3.cell 1;have y3_2:w3.cell? ⟨w.heap.size + 1 + 1,2,none⟩ = some (.string d.name):=T3.b3.cell 2;have y3_3:w3.cell? ⟨w.heap.size + 1 + 1,3,none⟩ = some (.int .i64 d.length):=T3.b3.cell 3;have y3_4:w3.cell? ⟨w.heap.size + 1 + 1,4,none⟩ = some (.int .i64 d.group):=T3.b3.cell 4;have y3_5:w3.cell? ⟨w.heap.size + 1 + 1,5,none⟩ = some (.int .i64 d.row):=T3.b3.cell 5;have y3_6:w3.cell? ⟨w.heap.size + 1 + 1,6,none⟩ = some (.slice bo6 d.rows.1 bcap6):=T3.b3.cell 6;have y3_7:w3.cell? ⟨w.heap.size + 1 + 1,7,none⟩ = some (.slice bo7 d.data.1 bcap7):=T3.b3.cell 7;have y3_8:w3.cell? ⟨w.heap.size + 1 + 1,8,none⟩ = some (.slice none 0 0):=T3.b3.cell 8;have yf3_8:w3.frozen? ⟨w.heap.size + 1 + 1,8,none⟩ = false:=T3.b3.frozen 8;have z3_0:w3.cell? ⟨w.heap.size + 1,0,none⟩ = some (.int .i64 0):=T3.b2.cell 0;have zf3_0:w3.frozen? ⟨w.heap.size + 1,0,none⟩ = false:=T3.b2.frozen 0;have z3_1:w3.cell? ⟨w.heap.size + 1,1,none⟩ = some (.int .i64 0):=T3.b2.cell 1;have zf3_1:w3.frozen? ⟨w.heap.size + 1,1,none⟩ = false:=T3.b2.frozen 1;have z3_2:w3.cell? ⟨w.heap.size + 1,2,none⟩ = some (.string ByteArray.empty):=T3.b2.cell 2;have zf3_2:w3.frozen? ⟨w.heap.size + 1,2,none⟩ = false:=T3.b2.frozen 2;have z3_3:w3.cell? ⟨w.heap.size + 1,3,none⟩ = some (.int .i64 0):=T3.b2.cell 3;have zf3_3:w3.frozen? ⟨w.heap.size + 1,3,none⟩ = false:=T3.b2.frozen 3;have z3_4:w3.cell? ⟨w.heap.size + 1,4,none⟩ = some (.int .i64 0):=T3.b2.cell 4;have zf3_4:w3.frozen? ⟨w.heap.size + 1,4,none⟩ = false:=T3.b2.frozen 4;have z3_5:w3.cell? ⟨w.heap.size + 1,5,none⟩ = some (.int .i64 0):=T3.b2.cell 5;have zf3_5:w3.frozen? ⟨w.heap.size + 1,5,none⟩ = false:=T3.b2.frozen 5;have z3_6:w3.cell? ⟨w.heap.size + 1,6,none⟩ = some (.slice none 0 0):=T3.b2.cell 6;have zf3_6:w3.frozen? ⟨w.heap.size + 1,6,none⟩ = false:=T3.b2.frozen 6;have z3_7:w3.cell? ⟨w.heap.size + 1,7,none⟩ = some (.slice none 0 0):=T3.b2.cell 7;have zf3_7:w3.frozen? ⟨w.heap.size + 1,7,none⟩ = false:=T3.b2.frozen 7;have z3_8:w3.cell? ⟨w.heap.size + 1,8,none⟩ = some (.slice none 0 0):=T3.b2.cell 8;have zf3_8:w3.frozen? ⟨w.heap.size + 1,8,none⟩ = false:=T3.b2.frozen 8;have Bq:Hid (Below w.heap.size w w3):=T3.bel;clear T3 b3;go_wp2;refine bodyPost_ret (v:=.agg #[.int .i64 d.kind,.int .i64 d.seq,.string d.name,.int .i64 d.length,.int .i64 d.group,.int .i64 d.row,.slice bo6 d.rows.1 bcap6,.slice bo7 d.data.1 bcap7,.slice bo8 d.delta.1 bcap8]) (by simp [results,Tryz.results117,go_sem,y3_0,z3_0,y3_1,z3_1,y3_2,z3_2,y3_3,z3_3,y3_4,z3_4,y3_5,z3_5,y3_6,z3_6,y3_7,z3_7,y3_8,z3_8]) rfl ?_;have F:OwnT layRec w3 (w.heap.size + 1 + 1 + 1) w3.heap.size d ([.int .i64 d.kind] ++ ([.int .i64 d.seq] ++ ([.string d.name] ++ ([.int .i64 d.length] ++ ([.int .i64 d.group] ++ ([.int .i64 d.row] ++ ([.slice bo6 d.rows.1 bcap6] ++ ([.slice bo7 d.data.1 bcap7] ++ [.slice bo8 d.delta.1 bcap8])))))))):=OwnT.conv (OwnT.pre (A:=layI) (a:=d.kind) (c:=[.int .i64 d.kind]) ⟨rfl,Q0.out,rfl⟩ (OwnT.pre (A:=layI) (a:=d.seq) (c:=[.int .i64 d.seq]) ⟨rfl,Q1.out,rfl⟩ (OwnT.pre (A:=layS) (a:=d.name) (c:=[.string d.name]) ⟨rfl,Q2.out,rfl⟩ (OwnT.pre (A:=layI) (a:=d.length) (c:=[.int .i64 d.length]) ⟨rfl,Q3.out,rfl⟩ (OwnT.pre (A:=layI) (a:=d.group) (c:=[.int .i64 d.group]) ⟨rfl,Q4.out,rfl⟩ (OwnT.pre (A:=layI) (a:=d.row) (c:=[.int .i64 d.row]) ⟨rfl,Q5.out,rfl⟩ (OwnT.two O6.out (OwnT.two O7.out (O8.out) (by omega) (by omega) (by omega)) (by omega) (by omega) (by omega))))))))
  exact ⟨[.int .i64 d.kind,.int .i64 d.seq,.string d.name,.int .i64 d.length,.int .i64 d.group,.int .i64 d.row,.slice bo6 d.rows.1 bcap6,.slice bo7 d.data.1 bcap7,.slice bo8 d.delta.1 bcap8],rfl,OwnT.fin F 8 0 [.slice bo8 d.delta.1 bcap8] [.int .i64 d.kind,.int .i64 d.seq,.string d.name,.int .i64 d.length,.int .i64 d.group,.int .i64 d.row,.slice bo6 d.rows.1 bcap6,.slice bo7 d.data.1 bcap7,.slice bo8 d.delta.1 bcap8] _ rfl,below_fin Bq.out 8 0 [.slice bo8 d.delta.1 bcap8] [.int .i64 d.kind,.int .i64 d.seq,.string d.name,.int .i64 d.length,.int .i64 d.group,.int .i64 d.row,.slice bo6 d.rows.1 bcap6,.slice bo7 d.data.1 bcap7,.slice bo8 d.delta.1 bcap8] _ rfl⟩
theorem info_RecS:(Tryz.prog.info? 66).map (fun i => (i.zero.map (·.cells),i.size,i.bytes)) = some (some #[.int .i64 0,.int .i64 0,.string ByteArray.empty,.int .i64 0,.int .i64 0,.int .i64 0,.slice none 0 0,.slice none 0 0,.slice none 0 0],9,128):=by kernel_rfl
set_option maxHeartbeats 4000000 in
theorem toRecS_is:ToS (layRec.slice 66) (szSl szRecD) 89:=fun v d hi w h hhi hn => by
  obtain ⟨n,x⟩:=d;obtain ⟨ao,cap,hv,hm,hc⟩:=h
  cases hv
  have hn1:=szSl_n hn;have hn2:∀ i,i < n → szRecD (x i) ≤ 1048576:=fun i hi => szSl_at hn hi
  simp only at hn1 hm hc
  clear hn
  go_enter Tryz.func89,Tryz.ntmps89
  go_wp2_with (at_make;refine wp_makeT layRec [.int .i64 0,.int .i64 0,.string ByteArray.empty,.int .i64 0,.int .i64 0,.int .i64 0,.slice none 0 0,.slice none 0 0,.slice none 0 0] _ 66 128 (by decide) rfl Tryz.underlying54 info_RecS x (fun _ => []) _ rfl _ _ rfl _ _ n rfl rfl rfl rfl (by omega) (by omega) ?_;intro w1 sp1 hb1)
  go_loopw [4] (fun i wr => ∃ k:Nat,k ≤ n ∧ i = .int .i64 k ∧ ∃ ce Ls,SlP layRec 66 wr w.heap.size w.heap.size n n k x ce Ls ∧ Below w.heap.size w wr) (fun i _ => n - (intOf i).toNat)
  case atStart => exact ⟨0,Nat.zero_le _,rfl,_,_,sp1,hb1⟩
  case round =>
    clear sp1 hb1;obtain ⟨k,hk,rfl,ce,Ls,sp,hb⟩:=hrel
    by_cases hlt:k < n
    · obtain ⟨b,off,rfl,hblt,hel⟩:=hc (by omega)
      obtain ⟨ck,hrk,hcell⟩:=elem_rd (t:=0) hel hb hhi hblt hlt;obtain ⟨ao6,cap6,ao7,cap7,ao8,cap8,rfl,-⟩:=Rec_rd hrk;have c0:wr.cell? ⟨b,off + k * 9,none⟩ = some (.int .i64 (x k).kind):=hcell 0 (by decide);have c1:wr.cell? ⟨b,off + k * 9 + 1,none⟩ = some (.int .i64 (x k).seq):=hcell 1 (by decide);have c2:wr.cell? ⟨b,off + k * 9 + 2,none⟩ = some (.string (x k).name):=hcell 2 (by decide);have c3:wr.cell? ⟨b,off + k * 9 + 3,none⟩ = some (.int .i64 (x k).length):=hcell 3 (by decide);have c4:wr.cell? ⟨b,off + k * 9 + 4,none⟩ = some (.int .i64 (x k).group):=hcell 4 (by decide);have c5:wr.cell? ⟨b,off + k * 9 + 5,none⟩ = some (.int .i64 (x k).row):=hcell 5 (by decide);have c6:wr.cell? ⟨b,off + k * 9 + 6,none⟩ = some (.slice ao6 (x k).rows.1 cap6):=hcell 6 (by decide);have c7:wr.cell? ⟨b,off + k * 9 + 7,none⟩ = some (.slice ao7 (x k).data.1 cap7):=hcell 7 (by decide);have c8:wr.cell? ⟨b,off + k * 9 + 8,none⟩ = some (.slice ao8 (x k).delta.1 cap8):=hcell 8 (by decide);clear hc hel hcell
      go_wp2_with fail
      refine (toRec_is _ (x k) hi wr hrk (Nat.le_trans hhi hb.size) (hn2 k hlt)).mono ?_;rintro e w2 ⟨cs',rfl,o2,hb2⟩;obtain ⟨bao6,bcap6,bao7,bcap7,bao8,bcap8,rfl⟩:=Rec_cells o2;obtain ⟨z0,s0⟩:=sp.some hb2 hlt (show 0 < layRec.sz by decide);have s0:w2.cell? ⟨w.heap.size,k * 9,none⟩ = some z0:=s0;have sf0:=(sp.below hb2).frozen (k * 9);obtain ⟨z1,s1⟩:=sp.some hb2 hlt (show 1 < layRec.sz by decide);have s1:w2.cell? ⟨w.heap.size,k * 9 + 1,none⟩ = some z1:=s1;have sf1:=(sp.below hb2).frozen (k * 9 + 1);obtain ⟨z2,s2⟩:=sp.some hb2 hlt (show 2 < layRec.sz by decide);have s2:w2.cell? ⟨w.heap.size,k * 9 + 2,none⟩ = some z2:=s2;have sf2:=(sp.below hb2).frozen (k * 9 + 2);obtain ⟨z3,s3⟩:=sp.some hb2 hlt (show 3 < layRec.sz by decide);have s3:w2.cell? ⟨w.heap.size,k * 9 + 3,none⟩ = some z3:=s3;have sf3:=(sp.below hb2).frozen (k * 9 + 3);obtain ⟨z4,s4⟩:=sp.some hb2 hlt (show 4 < layRec.sz by decide);have s4:w2.cell? ⟨w.heap.size,k * 9 + 4,none⟩ = some z4:=s4;have sf4:=(sp.below hb2).frozen (k * 9 + 4);obtain ⟨z5,s5⟩:=sp.some hb2 hlt (show 5 < layRec.sz by decide);have s5:w2.cell? ⟨w.heap.size,k * 9 + 5,none⟩ = some z5:=s5;have sf5:=(sp.below hb2).frozen (k * 9 + 5);obtain ⟨z6,s6⟩:=sp.some hb2 hlt (show 6 < layRec.sz by decide);have s6:w2.cell? ⟨w.heap.size,k * 9 + 6,none⟩ = some z6:=s6;have sf6:=(sp.below hb2).frozen (k * 9 + 6);obtain ⟨z7,s7⟩:=sp.some hb2 hlt (show 7 < layRec.sz by decide);have s7:w2.cell? ⟨w.heap.size,k * 9 + 7,none⟩ = some z7:=s7;have sf7:=(sp.below hb2).frozen (k * 9 + 7);obtain ⟨z8,s8⟩:=sp.some hb2 hlt (show 8 < layRec.sz by decide);have s8:w2.cell? ⟨w.heap.size,k * 9 + 8,none⟩ = some z8:=s8;have sf8:=(sp.below hb2).frozen (k * 9 + 8);have N:=sp.next hb2 hlt o2 hb.size;have N2:Below w.heap.size w (stN w2 w.heap.size (k * layRec.sz) [.int .i64 (x k).kind,.int .i64 (x k).seq,.string (x k).name,.int .i64 (x k).length,.int .i64 (x k).group,.int .i64 (x k).row,.slice bao6 (x k).rows.1 bcap6,.slice bao7 (x k).data.1 bcap7,.slice bao8 (x k).delta.1 bcap8]):=(hb.trans (hb2.mono hb.size)).trans (stN_below (Nat.le_refl _) _ _);clear o2 hb2 sp hb
      go_wp2_with fail
      go_roundw
      case rel =>
        obtain ⟨ce',Ls',N⟩:=N;exact ⟨k + 1,by omega,by go_num,ce',Ls',N,N2⟩
      case measure => simp [intOf];omega
    · obtain rfl:k = n:=by omega
      go_wp2;go_ret;exact ⟨_,rfl,sp.done (Nat.le_refl _),hb⟩
set_option maxHeartbeats 8000000 in
set_option maxRecDepth 20000 in
theorem toTape_is:ToV layTape szTapeD 53:=fun cs d hi w r hhi hn => by
  obtain ⟨ao1,cap1,rfl,h1⟩:=Tape_rd r;clear r;unfold szTapeD at hn;have R1:Hid ((layRec.slice 66).rd w hi d.recs [.slice ao1 d.recs.1 cap1]):=h1;clear h1
  go_enter Tryz.func53,Tryz.ntmps53
  go_wp2_with fail
  have T0:=three_newb w #[.bool d.wiped,.slice ao1 d.recs.1 cap1] #[.bool false,.slice none 0 0] #[.bool d.wiped,.slice none 0 0] 82 87 87;refine (toRecS_is _ d.recs hi _ ((layRec.slice 66).rd_below R1.out T0.bel hhi) (Nat.le_trans hhi T0.bel.size) (by omega)).mono ?_;rintro e w1 ⟨v1,rfl,o1,b1⟩;have L1:=T0.lt;obtain ⟨bo1,bcap1,hv⟩:=sl_formT o1;obtain rfl:=one_eq hv;clear hv;have T1:Three w w1 #[.bool d.wiped,.slice ao1 d.recs.1 cap1] #[.bool false,.slice none 0 0] #[.bool d.wiped,.slice none 0 0] 82 87 87:=T0.call b1;have O1:Hid (OwnT (layRec.slice 66) w1 (w.heap.size + 1 + 1 + 1) (w1.heap.size) d.recs [.slice bo1 d.recs.1 bcap1]):=o1.weaken (by simp <;> omega) (Nat.le_refl _);clear o1;have LT1:w.heap.size + 1 + 1 + 1 ≤ w1.heap.size:=T1.lt;have y1_0:w1.cell? ⟨w.heap.size + 1 + 1,0,none⟩ = some (.bool d.wiped):=T1.b3.cell 0;have y1_1:w1.cell? ⟨w.heap.size + 1 + 1,1,none⟩ = some (.slice none 0 0):=T1.b3.cell 1;have yf1_1:w1.frozen? ⟨w.heap.size + 1 + 1,1,none⟩ = false:=T1.b3.frozen 1;have z1_0:w1.cell? ⟨w.heap.size + 1,0,none⟩ = some (.bool false):=T1.b2.cell 0;have zf1_0:w1.frozen? ⟨w.heap.size + 1,0,none⟩ = false:=T1.b2.frozen 0;have z1_1:w1.cell? ⟨w.heap.size + 1,1,none⟩ = some (.slice none 0 0):=T1.b2.cell 1;have zf1_1:w1.frozen? ⟨w.heap.size + 1,1,none⟩ = false:=T1.b2.frozen 1;have Bq:Hid (Below w.heap.size w w1):=T1.bel;clear T1 b1;go_wp2;refine bodyPost_ret (v:=.agg #[.bool d.wiped,.slice bo1 d.recs.1 bcap1]) (by simp [results,Tryz.results53,go_sem,y1_0,z1_0,y1_1,z1_1]) rfl ?_;have F:OwnT layTape w1 (w.heap.size + 1 + 1 + 1) w1.heap.size d ([.bool d.wiped] ++ [.slice bo1 d.recs.1 bcap1]):=OwnT.conv (OwnT.pre (A:=layB) (a:=d.wiped) (c:=[.bool d.wiped]) ⟨rfl,trivial,rfl⟩ (O1.out));exact ⟨[.bool d.wiped,.slice bo1 d.recs.1 bcap1],rfl,OwnT.fin F 1 0 [.slice bo1 d.recs.1 bcap1] [.bool d.wiped,.slice bo1 d.recs.1 bcap1] _ rfl,below_fin Bq.out 1 0 [.slice bo1 d.recs.1 bcap1] [.bool d.wiped,.slice bo1 d.recs.1 bcap1] _ rfl⟩
theorem info_TapeS:(Tryz.prog.info? 87).map (fun i => (i.zero.map (·.cells),i.size,i.bytes)) = some (some #[.bool false,.slice none 0 0],2,32):=by kernel_rfl
set_option maxHeartbeats 4000000 in
theorem toTapeS_is:ToS (layTape.slice 87) (szSl szTapeD) 26:=fun v d hi w h hhi hn => by
  obtain ⟨n,x⟩:=d;obtain ⟨ao,cap,hv,hm,hc⟩:=h
  cases hv
  have hn1:=szSl_n hn;have hn2:∀ i,i < n → szTapeD (x i) ≤ 1048576:=fun i hi => szSl_at hn hi
  simp only at hn1 hm hc
  clear hn
  go_enter Tryz.func26,Tryz.ntmps26
  go_wp2_with (at_make;refine wp_makeT layTape [.bool false,.slice none 0 0] _ 87 32 (by decide) rfl Tryz.underlying35 info_TapeS x (fun _ => []) _ rfl _ _ rfl _ _ n rfl rfl rfl rfl (by omega) (by omega) ?_;intro w1 sp1 hb1)
  go_loopw [4] (fun i wr => ∃ k:Nat,k ≤ n ∧ i = .int .i64 k ∧ ∃ ce Ls,SlP layTape 87 wr w.heap.size w.heap.size n n k x ce Ls ∧ Below w.heap.size w wr) (fun i _ => n - (intOf i).toNat)
  case atStart => exact ⟨0,Nat.zero_le _,rfl,_,_,sp1,hb1⟩
  case round =>
    clear sp1 hb1;obtain ⟨k,hk,rfl,ce,Ls,sp,hb⟩:=hrel
    by_cases hlt:k < n
    · obtain ⟨b,off,rfl,hblt,hel⟩:=hc (by omega)
      obtain ⟨ck,hrk,hcell⟩:=elem_rd (t:=0) hel hb hhi hblt hlt;obtain ⟨ao1,cap1,rfl,-⟩:=Tape_rd hrk;have c0:wr.cell? ⟨b,off + k * 2,none⟩ = some (.bool (x k).wiped):=hcell 0 (by decide);have c1:wr.cell? ⟨b,off + k * 2 + 1,none⟩ = some (.slice ao1 (x k).recs.1 cap1):=hcell 1 (by decide);clear hc hel hcell
      go_wp2_with fail
      refine (toTape_is _ (x k) hi wr hrk (Nat.le_trans hhi hb.size) (hn2 k hlt)).mono ?_;rintro e w2 ⟨cs',rfl,o2,hb2⟩;obtain ⟨bao1,bcap1,rfl⟩:=Tape_cells o2;obtain ⟨z0,s0⟩:=sp.some hb2 hlt (show 0 < layTape.sz by decide);have s0:w2.cell? ⟨w.heap.size,k * 2,none⟩ = some z0:=s0;have sf0:=(sp.below hb2).frozen (k * 2);obtain ⟨z1,s1⟩:=sp.some hb2 hlt (show 1 < layTape.sz by decide);have s1:w2.cell? ⟨w.heap.size,k * 2 + 1,none⟩ = some z1:=s1;have sf1:=(sp.below hb2).frozen (k * 2 + 1);have N:=sp.next hb2 hlt o2 hb.size;have N2:Below w.heap.size w (stN w2 w.heap.size (k * layTape.sz) [.bool (x k).wiped,.slice bao1 (x k).recs.1 bcap1]):=(hb.trans (hb2.mono hb.size)).trans (stN_below (Nat.le_refl _) _ _);clear o2 hb2 sp hb
      go_wp2_with fail
      go_roundw
      case rel =>
        obtain ⟨ce',Ls',N⟩:=N;exact ⟨k + 1,by omega,by go_num,ce',Ls',N,N2⟩
      case measure => simp [intOf];omega
    · obtain rfl:k = n:=by omega
      go_wp2;go_ret;exact ⟨_,rfl,sp.done (Nat.le_refl _),hb⟩
end Go.Proofs.YtfoidpcoiankoaaGreat
namespace Go.Proofs.YtfoidpcoiankoaaGreat
open Go.RowKit F256
set_option maxHeartbeats 8000000 in
set_option maxRecDepth 20000 in
theorem toWorld_is:ToV layWorld szWorldD 7:=fun cs d hi w r hhi hn => by
  obtain ⟨ao1,cap1,ao2,cap2,ao3,cap3,rfl,h1,h2,h3,k0,k4,k5⟩:=World_rd r;clear r;unfold szWorldD at hn;have R1:Hid (((layDrive.slice 133).slice 92).rd w hi d.groups [.slice ao1 d.groups.1 cap1]):=h1;have R2:Hid (layInts.rd w hi d.on [.slice ao2 d.on.1 cap2]):=h2;have R3:Hid ((layTape.slice 87).rd w hi d.tapes [.slice ao3 d.tapes.1 cap3]):=h3;clear h1 h2 h3;have Q0:Hid ((∀ i,-9223372036854775808 ≤ d.shape i ∧ d.shape i ≤ 9223372036854775807)):=k0;have Q4:Hid ((-9223372036854775808 ≤ d.writes ∧ d.writes ≤ 9223372036854775807)):=k4;have Q5:Hid ((-9223372036854775808 ≤ d.stop ∧ d.stop ≤ 9223372036854775807)):=k5;clear k0 k4 k5
  go_enter Tryz.func7,Tryz.ntmps7
  go_wp2_with fail
  have T0:=three_newb w #[.int .i64 (d.shape 0),.int .i64 (d.shape 1),.int .i64 (d.shape 2),.int .i64 (d.shape 3),.int .i64 (d.shape 4),.int .i64 (d.shape 5),.int .i64 (d.shape 6),.int .i64 (d.shape 7),.int .i64 (d.shape 8),.slice ao1 d.groups.1 cap1,.slice ao2 d.on.1 cap2,.slice ao3 d.tapes.1 cap3,.int .i64 d.writes,.int .i64 d.stop,.bool d.down] #[.int .i64 0,.int .i64 0,.int .i64 0,.int .i64 0,.int .i64 0,.int .i64 0,.int .i64 0,.int .i64 0,.int .i64 0,.slice none 0 0,.slice none 0 0,.slice none 0 0,.int .i64 0,.int .i64 0,.bool false] #[.int .i64 0,.int .i64 0,.int .i64 0,.int .i64 0,.int .i64 0,.int .i64 0,.int .i64 0,.int .i64 0,.int .i64 0,.slice none 0 0,.slice none 0 0,.slice none 0 0,.int .i64 0,.int .i64 0,.bool false] 28 37 37;refine (toShape_any d.shape _).mono ?_;rintro e w1 ⟨rfl,b1⟩;unfold shapeV;have L1:=T0.lt;have T1:Three w w1 #[.int .i64 (d.shape 0),.int .i64 (d.shape 1),.int .i64 (d.shape 2),.int .i64 (d.shape 3),.int .i64 (d.shape 4),.int .i64 (d.shape 5),.int .i64 (d.shape 6),.int .i64 (d.shape 7),.int .i64 (d.shape 8),.slice ao1 d.groups.1 cap1,.slice ao2 d.on.1 cap2,.slice ao3 d.tapes.1 cap3,.int .i64 d.writes,.int .i64 d.stop,.bool d.down] #[.int .i64 0,.int .i64 0,.int .i64 0,.int .i64 0,.int .i64 0,.int .i64 0,.int .i64 0,.int .i64 0,.int .i64 0,.slice none 0 0,.slice none 0 0,.slice none 0 0,.int .i64 0,.int .i64 0,.bool false] #[.int .i64 0,.int .i64 0,.int .i64 0,.int .i64 0,.int .i64 0,.int .i64 0,.int .i64 0,.int .i64 0,.int .i64 0,.slice none 0 0,.slice none 0 0,.slice none 0 0,.int .i64 0,.int .i64 0,.bool false] 28 37 37:=T0.call b1;have LT1:w.heap.size + 1 + 1 + 1 ≤ w1.heap.size:=T1.lt;have x1_9:w1.cell? ⟨w.heap.size,9,none⟩ = some (.slice ao1 d.groups.1 cap1):=T1.b1.cell 9;have y1_0:w1.cell? ⟨w.heap.size + 1 + 1,0,none⟩ = some (.int .i64 0):=T1.b3.cell 0;have y1_1:w1.cell? ⟨w.heap.size + 1 + 1,1,none⟩ = some (.int .i64 0):=T1.b3.cell 1;have y1_2:w1.cell? ⟨w.heap.size + 1 + 1,2,none⟩ = some (.int .i64 0):=T1.b3.cell 2;have y1_3:w1.cell? ⟨w.heap.size + 1 + 1,3,none⟩ = some (.int .i64 0):=T1.b3.cell 3;have y1_4:w1.cell? ⟨w.heap.size + 1 + 1,4,none⟩ = some (.int .i64 0):=T1.b3.cell 4;have y1_5:w1.cell? ⟨w.heap.size + 1 + 1,5,none⟩ = some (.int .i64 0):=T1.b3.cell 5;have y1_6:w1.cell? ⟨w.heap.size + 1 + 1,6,none⟩ = some (.int .i64 0):=T1.b3.cell 6;have y1_7:w1.cell? ⟨w.heap.size + 1 + 1,7,none⟩ = some (.int .i64 0):=T1.b3.cell 7;have y1_8:w1.cell? ⟨w.heap.size + 1 + 1,8,none⟩ = some (.int .i64 0):=T1.b3.cell 8;have yf1_0:w1.frozen? ⟨w.heap.size + 1 + 1,0,none⟩ = false:=T1.b3.frozen 0;have yf1_1:w1.frozen? ⟨w.heap.size + 1 + 1,1,none⟩ = false:=T1.b3.frozen 1;have yf1_2:w1.frozen? ⟨w.heap.size + 1 + 1,2,none⟩ = false:=T1.b3.frozen 2;have yf1_3:w1.frozen? ⟨w.heap.size + 1 + 1,3,none⟩ = false:=T1.b3.frozen 3;have yf1_4:w1.frozen? ⟨w.heap.size + 1 + 1,4,none⟩ = false:=T1.b3.frozen 4
  have yf1_5:w1.frozen? ⟨w.heap.size + 1 + 1,5,none⟩ = false:=T1.b3.frozen 5;have yf1_6:w1.frozen? ⟨w.heap.size + 1 + 1,6,none⟩ = false:=T1.b3.frozen 6;have yf1_7:w1.frozen? ⟨w.heap.size + 1 + 1,7,none⟩ = false:=T1.b3.frozen 7;have yf1_8:w1.frozen? ⟨w.heap.size + 1 + 1,8,none⟩ = false:=T1.b3.frozen 8;have V1:Three w (((((((((w1.setCell ⟨w.heap.size + 1 + 1,0,none⟩ (.int .i64 (d.shape 0))).setCell ⟨w.heap.size + 1 + 1,1,none⟩ (.int .i64 (d.shape 1))).setCell ⟨w.heap.size + 1 + 1,2,none⟩ (.int .i64 (d.shape 2))).setCell ⟨w.heap.size + 1 + 1,3,none⟩ (.int .i64 (d.shape 3))).setCell ⟨w.heap.size + 1 + 1,4,none⟩ (.int .i64 (d.shape 4))).setCell ⟨w.heap.size + 1 + 1,5,none⟩ (.int .i64 (d.shape 5))).setCell ⟨w.heap.size + 1 + 1,6,none⟩ (.int .i64 (d.shape 6))).setCell ⟨w.heap.size + 1 + 1,7,none⟩ (.int .i64 (d.shape 7))).setCell ⟨w.heap.size + 1 + 1,8,none⟩ (.int .i64 (d.shape 8))) #[.int .i64 (d.shape 0),.int .i64 (d.shape 1),.int .i64 (d.shape 2),.int .i64 (d.shape 3),.int .i64 (d.shape 4),.int .i64 (d.shape 5),.int .i64 (d.shape 6),.int .i64 (d.shape 7),.int .i64 (d.shape 8),.slice ao1 d.groups.1 cap1,.slice ao2 d.on.1 cap2,.slice ao3 d.tapes.1 cap3,.int .i64 d.writes,.int .i64 d.stop,.bool d.down] #[.int .i64 0,.int .i64 0,.int .i64 0,.int .i64 0,.int .i64 0,.int .i64 0,.int .i64 0,.int .i64 0,.int .i64 0,.slice none 0 0,.slice none 0 0,.slice none 0 0,.int .i64 0,.int .i64 0,.bool false] #[.int .i64 (d.shape 0),.int .i64 (d.shape 1),.int .i64 (d.shape 2),.int .i64 (d.shape 3),.int .i64 (d.shape 4),.int .i64 (d.shape 5),.int .i64 (d.shape 6),.int .i64 (d.shape 7),.int .i64 (d.shape 8),.slice none 0 0,.slice none 0 0,.slice none 0 0,.int .i64 0,.int .i64 0,.bool false] 28 37 37:=T1.st3 0 [.int .i64 (d.shape 0),.int .i64 (d.shape 1),.int .i64 (d.shape 2),.int .i64 (d.shape 3),.int .i64 (d.shape 4),.int .i64 (d.shape 5),.int .i64 (d.shape 6),.int .i64 (d.shape 7),.int .i64 (d.shape 8)] (c3':=[.int .i64 (d.shape 0),.int .i64 (d.shape 1),.int .i64 (d.shape 2),.int .i64 (d.shape 3),.int .i64 (d.shape 4),.int .i64 (d.shape 5),.int .i64 (d.shape 6),.int .i64 (d.shape 7),.int .i64 (d.shape 8),.slice none 0 0,.slice none 0 0,.slice none 0 0,.int .i64 0,.int .i64 0,.bool false]) rfl;clear T1 b1
  go_wp2_with fail
  refine (toDriveSS_is _ d.groups hi _ (((layDrive.slice 133).slice 92).rd_below R1.out V1.bel hhi) (Nat.le_trans hhi V1.bel.size) (by omega)).mono ?_;rintro e w2 ⟨v2,rfl,o2,b2⟩;have L2:=V1.lt;obtain ⟨bo1,bcap1,hv⟩:=sl_formT o2;obtain rfl:=one_eq hv;clear hv;have T2:Three w w2 #[.int .i64 (d.shape 0),.int .i64 (d.shape 1),.int .i64 (d.shape 2),.int .i64 (d.shape 3),.int .i64 (d.shape 4),.int .i64 (d.shape 5),.int .i64 (d.shape 6),.int .i64 (d.shape 7),.int .i64 (d.shape 8),.slice ao1 d.groups.1 cap1,.slice ao2 d.on.1 cap2,.slice ao3 d.tapes.1 cap3,.int .i64 d.writes,.int .i64 d.stop,.bool d.down] #[.int .i64 0,.int .i64 0,.int .i64 0,.int .i64 0,.int .i64 0,.int .i64 0,.int .i64 0,.int .i64 0,.int .i64 0,.slice none 0 0,.slice none 0 0,.slice none 0 0,.int .i64 0,.int .i64 0,.bool false] #[.int .i64 (d.shape 0),.int .i64 (d.shape 1),.int .i64 (d.shape 2),.int .i64 (d.shape 3),.int .i64 (d.shape 4),.int .i64 (d.shape 5),.int .i64 (d.shape 6),.int .i64 (d.shape 7),.int .i64 (d.shape 8),.slice none 0 0,.slice none 0 0,.slice none 0 0,.int .i64 0,.int .i64 0,.bool false] 28 37 37:=V1.call b2;have O1:Hid (OwnT ((layDrive.slice 133).slice 92) w2 (w.heap.size + 1 + 1 + 1) (w2.heap.size) d.groups [.slice bo1 d.groups.1 bcap1]):=o2.weaken (by simp <;> omega) (Nat.le_refl _);clear o2;have LT2:w.heap.size + 1 + 1 + 1 ≤ w2.heap.size:=T2.lt
  have S2:w1.heap.size ≤ w2.heap.size:=by
    have:=b2.size
    simpa using this
  have x2_10:w2.cell? ⟨w.heap.size,10,none⟩ = some (.slice ao2 d.on.1 cap2):=T2.b1.cell 10;have y2_9:w2.cell? ⟨w.heap.size + 1 + 1,9,none⟩ = some (.slice none 0 0):=T2.b3.cell 9;have yf2_9:w2.frozen? ⟨w.heap.size + 1 + 1,9,none⟩ = false:=T2.b3.frozen 9;have V2:Three w (w2.setCell ⟨w.heap.size + 1 + 1,9,none⟩ (.slice bo1 d.groups.1 bcap1)) #[.int .i64 (d.shape 0),.int .i64 (d.shape 1),.int .i64 (d.shape 2),.int .i64 (d.shape 3),.int .i64 (d.shape 4),.int .i64 (d.shape 5),.int .i64 (d.shape 6),.int .i64 (d.shape 7),.int .i64 (d.shape 8),.slice ao1 d.groups.1 cap1,.slice ao2 d.on.1 cap2,.slice ao3 d.tapes.1 cap3,.int .i64 d.writes,.int .i64 d.stop,.bool d.down] #[.int .i64 0,.int .i64 0,.int .i64 0,.int .i64 0,.int .i64 0,.int .i64 0,.int .i64 0,.int .i64 0,.int .i64 0,.slice none 0 0,.slice none 0 0,.slice none 0 0,.int .i64 0,.int .i64 0,.bool false] #[.int .i64 (d.shape 0),.int .i64 (d.shape 1),.int .i64 (d.shape 2),.int .i64 (d.shape 3),.int .i64 (d.shape 4),.int .i64 (d.shape 5),.int .i64 (d.shape 6),.int .i64 (d.shape 7),.int .i64 (d.shape 8),.slice bo1 d.groups.1 bcap1,.slice none 0 0,.slice none 0 0,.int .i64 0,.int .i64 0,.bool false] 28 37 37:=T2.st3 9 [.slice bo1 d.groups.1 bcap1] (c3':=[.int .i64 (d.shape 0),.int .i64 (d.shape 1),.int .i64 (d.shape 2),.int .i64 (d.shape 3),.int .i64 (d.shape 4),.int .i64 (d.shape 5),.int .i64 (d.shape 6),.int .i64 (d.shape 7),.int .i64 (d.shape 8),.slice bo1 d.groups.1 bcap1,.slice none 0 0,.slice none 0 0,.int .i64 0,.int .i64 0,.bool false]) rfl;clear T2 b2
  go_wp2_with fail
  refine (toInts_is _ d.on hi _ (layInts.rd_below R2.out V2.bel hhi) (Nat.le_trans hhi V2.bel.size) (by omega)).mono ?_;rintro e w3 ⟨v3,rfl,o3,b3⟩;have L3:=V2.lt;obtain ⟨bo2,bcap2,hv⟩:=ints_formT o3;obtain rfl:=one_eq hv;clear hv;have T3:Three w w3 #[.int .i64 (d.shape 0),.int .i64 (d.shape 1),.int .i64 (d.shape 2),.int .i64 (d.shape 3),.int .i64 (d.shape 4),.int .i64 (d.shape 5),.int .i64 (d.shape 6),.int .i64 (d.shape 7),.int .i64 (d.shape 8),.slice ao1 d.groups.1 cap1,.slice ao2 d.on.1 cap2,.slice ao3 d.tapes.1 cap3,.int .i64 d.writes,.int .i64 d.stop,.bool d.down] #[.int .i64 0,.int .i64 0,.int .i64 0,.int .i64 0,.int .i64 0,.int .i64 0,.int .i64 0,.int .i64 0,.int .i64 0,.slice none 0 0,.slice none 0 0,.slice none 0 0,.int .i64 0,.int .i64 0,.bool false] #[.int .i64 (d.shape 0),.int .i64 (d.shape 1),.int .i64 (d.shape 2),.int .i64 (d.shape 3),.int .i64 (d.shape 4),.int .i64 (d.shape 5),.int .i64 (d.shape 6),.int .i64 (d.shape 7),.int .i64 (d.shape 8),.slice bo1 d.groups.1 bcap1,.slice none 0 0,.slice none 0 0,.int .i64 0,.int .i64 0,.bool false] 28 37 37:=V2.call b3;have O1x:OwnT ((layDrive.slice 133).slice 92) w3 (w.heap.size + 1 + 1 + 1) (w2.heap.size) d.groups [.slice bo1 d.groups.1 bcap1]:=((O1.out).set (show w.heap.size + 1 + 1 < _ by omega)).call b3;clear O1;have O1:Hid (OwnT ((layDrive.slice 133).slice 92) w3 (w.heap.size + 1 + 1 + 1) (w2.heap.size) d.groups [.slice bo1 d.groups.1 bcap1]):=O1x;clear O1x;have O2:Hid (OwnT layInts w3 (w2.heap.size) (w3.heap.size) d.on [.slice bo2 d.on.1 bcap2]):=o3.weaken (by simp <;> omega) (Nat.le_refl _);clear o3;have LT3:w.heap.size + 1 + 1 + 1 ≤ w3.heap.size:=T3.lt
  have S3:w2.heap.size ≤ w3.heap.size:=by
    have:=b3.size
    simpa using this
  have x3_11:w3.cell? ⟨w.heap.size,11,none⟩ = some (.slice ao3 d.tapes.1 cap3):=T3.b1.cell 11;have y3_10:w3.cell? ⟨w.heap.size + 1 + 1,10,none⟩ = some (.slice none 0 0):=T3.b3.cell 10;have yf3_10:w3.frozen? ⟨w.heap.size + 1 + 1,10,none⟩ = false:=T3.b3.frozen 10;have V3:Three w (w3.setCell ⟨w.heap.size + 1 + 1,10,none⟩ (.slice bo2 d.on.1 bcap2)) #[.int .i64 (d.shape 0),.int .i64 (d.shape 1),.int .i64 (d.shape 2),.int .i64 (d.shape 3),.int .i64 (d.shape 4),.int .i64 (d.shape 5),.int .i64 (d.shape 6),.int .i64 (d.shape 7),.int .i64 (d.shape 8),.slice ao1 d.groups.1 cap1,.slice ao2 d.on.1 cap2,.slice ao3 d.tapes.1 cap3,.int .i64 d.writes,.int .i64 d.stop,.bool d.down] #[.int .i64 0,.int .i64 0,.int .i64 0,.int .i64 0,.int .i64 0,.int .i64 0,.int .i64 0,.int .i64 0,.int .i64 0,.slice none 0 0,.slice none 0 0,.slice none 0 0,.int .i64 0,.int .i64 0,.bool false] #[.int .i64 (d.shape 0),.int .i64 (d.shape 1),.int .i64 (d.shape 2),.int .i64 (d.shape 3),.int .i64 (d.shape 4),.int .i64 (d.shape 5),.int .i64 (d.shape 6),.int .i64 (d.shape 7),.int .i64 (d.shape 8),.slice bo1 d.groups.1 bcap1,.slice bo2 d.on.1 bcap2,.slice none 0 0,.int .i64 0,.int .i64 0,.bool false] 28 37 37:=T3.st3 10 [.slice bo2 d.on.1 bcap2] (c3':=[.int .i64 (d.shape 0),.int .i64 (d.shape 1),.int .i64 (d.shape 2),.int .i64 (d.shape 3),.int .i64 (d.shape 4),.int .i64 (d.shape 5),.int .i64 (d.shape 6),.int .i64 (d.shape 7),.int .i64 (d.shape 8),.slice bo1 d.groups.1 bcap1,.slice bo2 d.on.1 bcap2,.slice none 0 0,.int .i64 0,.int .i64 0,.bool false]) rfl;clear T3 b3
  go_wp2_with fail
  refine (toTapeS_is _ d.tapes hi _ ((layTape.slice 87).rd_below R3.out V3.bel hhi) (Nat.le_trans hhi V3.bel.size) (by omega)).mono ?_;rintro e w4 ⟨v4,rfl,o4,b4⟩;have L4:=V3.lt;obtain ⟨bo3,bcap3,hv⟩:=sl_formT o4;obtain rfl:=one_eq hv;clear hv;have T4:Three w w4 #[.int .i64 (d.shape 0),.int .i64 (d.shape 1),.int .i64 (d.shape 2),.int .i64 (d.shape 3),.int .i64 (d.shape 4),.int .i64 (d.shape 5),.int .i64 (d.shape 6),.int .i64 (d.shape 7),.int .i64 (d.shape 8),.slice ao1 d.groups.1 cap1,.slice ao2 d.on.1 cap2,.slice ao3 d.tapes.1 cap3,.int .i64 d.writes,.int .i64 d.stop,.bool d.down] #[.int .i64 0,.int .i64 0,.int .i64 0,.int .i64 0,.int .i64 0,.int .i64 0,.int .i64 0,.int .i64 0,.int .i64 0,.slice none 0 0,.slice none 0 0,.slice none 0 0,.int .i64 0,.int .i64 0,.bool false] #[.int .i64 (d.shape 0),.int .i64 (d.shape 1),.int .i64 (d.shape 2),.int .i64 (d.shape 3),.int .i64 (d.shape 4),.int .i64 (d.shape 5),.int .i64 (d.shape 6),.int .i64 (d.shape 7),.int .i64 (d.shape 8),.slice bo1 d.groups.1 bcap1,.slice bo2 d.on.1 bcap2,.slice none 0 0,.int .i64 0,.int .i64 0,.bool false] 28 37 37:=V3.call b4;have O1x:OwnT ((layDrive.slice 133).slice 92) w4 (w.heap.size + 1 + 1 + 1) (w2.heap.size) d.groups [.slice bo1 d.groups.1 bcap1]:=((O1.out).set (show w.heap.size + 1 + 1 < _ by omega)).call b4;clear O1;have O1:Hid (OwnT ((layDrive.slice 133).slice 92) w4 (w.heap.size + 1 + 1 + 1) (w2.heap.size) d.groups [.slice bo1 d.groups.1 bcap1]):=O1x;clear O1x;have O2x:OwnT layInts w4 (w2.heap.size) (w3.heap.size) d.on [.slice bo2 d.on.1 bcap2]:=((O2.out).set (show w.heap.size + 1 + 1 < _ by omega)).call b4;clear O2;have O2:Hid (OwnT layInts w4 (w2.heap.size) (w3.heap.size) d.on [.slice bo2 d.on.1 bcap2]):=O2x;clear O2x;have O3:Hid (OwnT (layTape.slice 87) w4 (w3.heap.size) (w4.heap.size) d.tapes [.slice bo3 d.tapes.1 bcap3]):=o4.weaken (by simp <;> omega) (Nat.le_refl _);clear o4;have LT4:w.heap.size + 1 + 1 + 1 ≤ w4.heap.size:=T4.lt
  have S4:w3.heap.size ≤ w4.heap.size:=by
    have:=b4.size
    simpa using this
  have x4_12:w4.cell? ⟨w.heap.size,12,none⟩ = some (.int .i64 d.writes):=T4.b1.cell 12;have x4_13:w4.cell? ⟨w.heap.size,13,none⟩ = some (.int .i64 d.stop):=T4.b1.cell 13;have x4_14:w4.cell? ⟨w.heap.size,14,none⟩ = some (.bool d.down):=T4.b1.cell 14;have y4_0:w4.cell? ⟨w.heap.size + 1 + 1,0,none⟩ = some (.int .i64 (d.shape 0)):=T4.b3.cell 0;have y4_1:w4.cell? ⟨w.heap.size + 1 + 1,1,none⟩ = some (.int .i64 (d.shape 1)):=T4.b3.cell 1;have y4_2:w4.cell? ⟨w.heap.size + 1 + 1,2,none⟩ = some (.int .i64 (d.shape 2)):=T4.b3.cell 2;have y4_3:w4.cell? ⟨w.heap.size + 1 + 1,3,none⟩ = some (.int .i64 (d.shape 3)):=T4.b3.cell 3;have y4_4:w4.cell? ⟨w.heap.size + 1 + 1,4,none⟩ = some (.int .i64 (d.shape 4)):=T4.b3.cell 4;have y4_5:w4.cell? ⟨w.heap.size + 1 + 1,5,none⟩ = some (.int .i64 (d.shape 5)):=T4.b3.cell 5;have y4_6:w4.cell? ⟨w.heap.size + 1 + 1,6,none⟩ = some (.int .i64 (d.shape 6)):=T4.b3.cell 6;have y4_7:w4.cell? ⟨w.heap.size + 1 + 1,7,none⟩ = some (.int .i64 (d.shape 7)):=T4.b3.cell 7;have y4_8:w4.cell? ⟨w.heap.size + 1 + 1,8,none⟩ = some (.int .i64 (d.shape 8)):=T4.b3.cell 8;have y4_9:w4.cell? ⟨w.heap.size + 1 + 1,9,none⟩ = some (.slice bo1 d.groups.1 bcap1):=T4.b3.cell 9;have y4_10:w4.cell? ⟨w.heap.size + 1 + 1,10,none⟩ = some (.slice bo2 d.on.1 bcap2):=T4.b3.cell 10;have y4_11:w4.cell? ⟨w.heap.size + 1 + 1,11,none⟩ = some (.slice none 0 0):=T4.b3.cell 11;have y4_12:w4.cell? ⟨w.heap.size + 1 + 1,12,none⟩ = some (.int .i64 0):=T4.b3.cell 12;have y4_13:w4.cell? ⟨w.heap.size + 1 + 1,13,none⟩ = some (.int .i64 0):=T4.b3.cell 13;have y4_14:w4.cell? ⟨w.heap.size + 1 + 1,14,none⟩ = some (.bool false):=T4.b3.cell 14;have yf4_11:w4.frozen? ⟨w.heap.size + 1 + 1,11,none⟩ = false:=T4.b3.frozen 11;have yf4_12:w4.frozen? ⟨w.heap.size + 1 + 1,12,none⟩ = false:=T4.b3.frozen 12;have yf4_13:w4.frozen? ⟨w.heap.size + 1 + 1,13,none⟩ = false:=T4.b3.frozen 13;have yf4_14:w4.frozen? ⟨w.heap.size + 1 + 1,14,none⟩ = false:=T4.b3.frozen 14;have z4_0:w4.cell? ⟨w.heap.size + 1,0,none⟩ = some (.int .i64 0):=T4.b2.cell 0;have zf4_0:w4.frozen? ⟨w.heap.size + 1,0,none⟩ = false:=T4.b2.frozen 0;have z4_1:w4.cell? ⟨w.heap.size + 1,1,none⟩ = some (.int .i64 0):=T4.b2.cell 1;have zf4_1:w4.frozen? ⟨w.heap.size + 1,1,none⟩ = false:=T4.b2.frozen 1;have z4_2:w4.cell? ⟨w.heap.size + 1,2,none⟩ = some (.int .i64 0):=T4.b2.cell 2;have zf4_2:w4.frozen? ⟨w.heap.size + 1,2,none⟩ = false:=T4.b2.frozen 2;have z4_3:w4.cell? ⟨w.heap.size + 1,3,none⟩ = some (.int .i64 0):=T4.b2.cell 3;have zf4_3:w4.frozen? ⟨w.heap.size + 1,3,none⟩ = false:=T4.b2.frozen 3;have z4_4:w4.cell? ⟨w.heap.size + 1,4,none⟩ = some (.int .i64 0):=T4.b2.cell 4;have zf4_4:w4.frozen? ⟨w.heap.size + 1,4,none⟩ = false:=T4.b2.frozen 4;have z4_5:w4.cell? ⟨w.heap.size + 1,5,none⟩ = some (.int .i64 0):=T4.b2.cell 5;have zf4_5:w4.frozen? ⟨w.heap.size + 1,5,none⟩ = false:=T4.b2.frozen 5
  have z4_6:w4.cell? ⟨w.heap.size + 1,6,none⟩ = some (.int .i64 0):=T4.b2.cell 6;have zf4_6:w4.frozen? ⟨w.heap.size + 1,6,none⟩ = false:=T4.b2.frozen 6;have z4_7:w4.cell? ⟨w.heap.size + 1,7,none⟩ = some (.int .i64 0):=T4.b2.cell 7;have zf4_7:w4.frozen? ⟨w.heap.size + 1,7,none⟩ = false:=T4.b2.frozen 7;have z4_8:w4.cell? ⟨w.heap.size + 1,8,none⟩ = some (.int .i64 0):=T4.b2.cell 8;have zf4_8:w4.frozen? ⟨w.heap.size + 1,8,none⟩ = false:=T4.b2.frozen 8;have z4_9:w4.cell? ⟨w.heap.size + 1,9,none⟩ = some (.slice none 0 0):=T4.b2.cell 9;have zf4_9:w4.frozen? ⟨w.heap.size + 1,9,none⟩ = false:=T4.b2.frozen 9;have z4_10:w4.cell? ⟨w.heap.size + 1,10,none⟩ = some (.slice none 0 0):=T4.b2.cell 10;have zf4_10:w4.frozen? ⟨w.heap.size + 1,10,none⟩ = false:=T4.b2.frozen 10;have z4_11:w4.cell? ⟨w.heap.size + 1,11,none⟩ = some (.slice none 0 0):=T4.b2.cell 11;have zf4_11:w4.frozen? ⟨w.heap.size + 1,11,none⟩ = false:=T4.b2.frozen 11;have z4_12:w4.cell? ⟨w.heap.size + 1,12,none⟩ = some (.int .i64 0):=T4.b2.cell 12;have zf4_12:w4.frozen? ⟨w.heap.size + 1,12,none⟩ = false:=T4.b2.frozen 12;have z4_13:w4.cell? ⟨w.heap.size + 1,13,none⟩ = some (.int .i64 0):=T4.b2.cell 13;have zf4_13:w4.frozen? ⟨w.heap.size + 1,13,none⟩ = false:=T4.b2.frozen 13;have z4_14:w4.cell? ⟨w.heap.size + 1,14,none⟩ = some (.bool false):=T4.b2.cell 14;have zf4_14:w4.frozen? ⟨w.heap.size + 1,14,none⟩ = false:=T4.b2.frozen 14;have Bq:Hid (Below w.heap.size w w4):=T4.bel;clear T4 b4;go_wp2;refine bodyPost_ret (v:=.agg #[.int .i64 (d.shape 0),.int .i64 (d.shape 1),.int .i64 (d.shape 2),.int .i64 (d.shape 3),.int .i64 (d.shape 4),.int .i64 (d.shape 5),.int .i64 (d.shape 6),.int .i64 (d.shape 7),.int .i64 (d.shape 8),.slice bo1 d.groups.1 bcap1,.slice bo2 d.on.1 bcap2,.slice bo3 d.tapes.1 bcap3,.int .i64 d.writes,.int .i64 d.stop,.bool d.down]) (by simp [results,Tryz.results7,go_sem,y4_0,z4_0,y4_1,z4_1,y4_2,z4_2,y4_3,z4_3,y4_4,z4_4,y4_5,z4_5,y4_6,z4_6,y4_7,z4_7,y4_8,z4_8,y4_9,z4_9,y4_10,z4_10,y4_11,z4_11,y4_12,z4_12,y4_13,z4_13,y4_14,z4_14]) rfl ?_;have F:OwnT layWorld w4 (w.heap.size + 1 + 1 + 1) w4.heap.size d ([.int .i64 (d.shape 0),.int .i64 (d.shape 1),.int .i64 (d.shape 2),.int .i64 (d.shape 3),.int .i64 (d.shape 4),.int .i64 (d.shape 5),.int .i64 (d.shape 6),.int .i64 (d.shape 7),.int .i64 (d.shape 8)] ++ ([.slice bo1 d.groups.1 bcap1] ++ ([.slice bo2 d.on.1 bcap2] ++ ([.slice bo3 d.tapes.1 bcap3] ++ ([.int .i64 d.writes] ++ ([.int .i64 d.stop] ++ [.bool d.down])))))):=OwnT.conv (OwnT.pre (A:=(layNums 9)) (a:=d.shape) (c:=[.int .i64 (d.shape 0),.int .i64 (d.shape 1),.int .i64 (d.shape 2),.int .i64 (d.shape 3),.int .i64 (d.shape 4),.int .i64 (d.shape 5),.int .i64 (d.shape 6),.int .i64 (d.shape 7),.int .i64 (d.shape 8)]) ⟨rfl,Q0.out,rfl⟩ (OwnT.two O1.out (OwnT.two O2.out (OwnT.two O3.out (OwnT.pre (A:=layI) (a:=d.writes) (c:=[.int .i64 d.writes]) ⟨rfl,Q4.out,rfl⟩ (OwnT.pre (A:=layI) (a:=d.stop) (c:=[.int .i64 d.stop]) ⟨rfl,Q5.out,rfl⟩ (OwnT.nil (A:=layB) (a:=d.down) (c:=[.bool d.down]) ⟨rfl,trivial,rfl⟩ w4.heap.size w4.heap.size))) (by omega) (by omega) (by omega)) (by omega) (by omega) (by omega)) (by omega) (by omega) (by omega)))
  exact ⟨[.int .i64 (d.shape 0),.int .i64 (d.shape 1),.int .i64 (d.shape 2),.int .i64 (d.shape 3),.int .i64 (d.shape 4),.int .i64 (d.shape 5),.int .i64 (d.shape 6),.int .i64 (d.shape 7),.int .i64 (d.shape 8),.slice bo1 d.groups.1 bcap1,.slice bo2 d.on.1 bcap2,.slice bo3 d.tapes.1 bcap3,.int .i64 d.writes,.int .i64 d.stop,.bool d.down],rfl,OwnT.fin F 11 0 [.slice bo3 d.tapes.1 bcap3,.int .i64 d.writes,.int .i64 d.stop,.bool d.down] [.int .i64 (d.shape 0),.int .i64 (d.shape 1),.int .i64 (d.shape 2),.int .i64 (d.shape 3),.int .i64 (d.shape 4),.int .i64 (d.shape 5),.int .i64 (d.shape 6),.int .i64 (d.shape 7),.int .i64 (d.shape 8),.slice bo1 d.groups.1 bcap1,.slice bo2 d.on.1 bcap2,.slice bo3 d.tapes.1 bcap3,.int .i64 d.writes,.int .i64 d.stop,.bool d.down] _ rfl,below_fin Bq.out 11 0 [.slice bo3 d.tapes.1 bcap3,.int .i64 d.writes,.int .i64 d.stop,.bool d.down] [.int .i64 (d.shape 0),.int .i64 (d.shape 1),.int .i64 (d.shape 2),.int .i64 (d.shape 3),.int .i64 (d.shape 4),.int .i64 (d.shape 5),.int .i64 (d.shape 6),.int .i64 (d.shape 7),.int .i64 (d.shape 8),.slice bo1 d.groups.1 bcap1,.slice bo2 d.on.1 bcap2,.slice bo3 d.tapes.1 bcap3,.int .i64 d.writes,.int .i64 d.stop,.bool d.down] _ rfl⟩
end Go.Proofs.YtfoidpcoiankoaaGreat