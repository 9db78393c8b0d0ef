/- For every list of things, every name and all bytes the program's PutThing answers as the specification's does, field by field, writes into nothing that it is handed, keeps nothing of it, and owns what it answers: the law FnExactPutThing returns true at every input, and changes nothing that was there. No condition. -/
import Derived.Test.YtapnjoophlckoaaRows
import Derived.Test.YtapnjoophlckoaaZFnExactPutThingA
import Derived.Test.YtapnjoophlckoaaZFnExactPutThingB
import Derived.Test.YtapnjoophlckoaaZFnExactPutThingC
import Derived.Deep.DeepCutAuto
namespace Go.Proofs.Ytapnjoophlckoaa
open Go.ChangeShapes Go.WideShapes Go.ChangeAt Go.RowKit F256
set_option linter.unusedVariables false
set_option linter.unusedSimpArgs false
set_option maxHeartbeats 16000000 in
set_option maxRecDepth 20000 in
theorem fnExactPutThing_walk (p : Nat × (Nat → ThingD)) (v : Value) (bn : ByteArray) (q : Nat × (Nat → Nat)) (u : Value) (w : World) (r0 : (layThing.slice 40).rd w w.heap.size p [v]) (hbn : bn.size ≤ maxLen) (r2 : layBytes.rd w w.heap.size q [u]) :
    Calls Try.prog 3 #[v, .string bn, u] w fun e w' => e = .returned (.bool true) ∧ Below w.heap.size w w' := by
  obtain ⟨ao, cap, hv⟩ := sl_form r0
  obtain rfl := one_eq hv
  have R0 : Hid ((layThing.slice 40).rd w w.heap.size p [.slice ao p.1 cap]) := r0
  clear r0 hv
  unfold maxLen at hbn
  obtain ⟨bo, bc, hv⟩ := bytes_form r2
  obtain rfl := one_eq hv
  have R2 : Hid (layBytes.rd w w.heap.size q [.slice bo q.1 bc]) := r2
  have hqm : q.1 ≤ maxLen := by
    obtain ⟨v', e9, r9, _⟩ := r2
    cases e9
    obtain ⟨_, _, e8, h8, _⟩ := r9
    exact h8
  unfold maxLen at hqm
  clear r2 hv
  obtain ⟨at_, hA⟩ := at_ex (dropL p bn).1 (dropL p bn).2 bn
  have HA : Hid (AtP (dropL p bn).1 (dropL p bn).2 bn at_) := hA
  clear hA
  by_cases hbig : 1048576 < bn.size
  · have hb1 : (1048576 : Int) < (bn.size : Int) := by omega
    clear hbig
    go_enter Try.func3, Try.ntmps3
    go_wp2
    go_ret
    exact ⟨rfl, Below.refl _ _⟩
  have hb1 : ¬ (1048576 : Int) < (bn.size : Int) := by omega
  have hbs : bn.size ≤ 1048576 := by omega
  by_cases hbig2 : 1048576 < q.1
  · have hb2 : (1048576 : Int) < (q.1 : Int) := by omega
    clear hbig2 hbig
    go_enter Try.func3, Try.ntmps3
    go_wp2
    go_ret
    exact ⟨rfl, Below.refl _ _⟩
  have hb2 : ¬ (1048576 : Int) < (q.1 : Int) := by omega
  have hbb : q.1 ≤ 1048576 := by omega
  clear hbig2
  clear hbig
  go_enter Try.func3, Try.ntmps3
  go_wp2_with fail
  refine (szThingS_is _ p w.heap.size 1048576 _ R0.out (Nat.le_refl _) (by omega)).mono ?_
  rintro e w1 ⟨x, rfl, hx, b1⟩
  have HB : Hid (Below w.heap.size w w1) := b1
  have z1 : w.heap.size ≤ w1.heap.size := b1.size
  clear b1
  rcases hx with rfl | ⟨hsz, hx⟩
  · go_wp2
    go_ret
    exact ⟨rfl, HB.out⟩
  have hx0 : ¬ x < 0 := by omega
  have hcA : 1 + cSl cThingD (putL p bn q at_) ≤ 100000000 := by
    have := cThings_le (putL p bn q at_) (B := 4000000) (put_sz hsz hbs hbb HA.out.le)
    omega
  have hcP : 1 + cSl cThingD p + q.1 ≤ 100000000 := by
    have := cThings_le p (B := 1048576) hsz
    omega
  clear hx
  go_wp2_with fail
  refine (toThingS_is _ p w.heap.size _ ((layThing.slice 40).rd_below R0.out HB.out (Nat.le_refl _)) HB.out.size hsz).mono ?_
  rintro e w2 ⟨v2, rfl, o2, b2⟩
  obtain ⟨a1o, a1c, hv⟩ := sl_formT o2
  obtain rfl := one_eq hv
  clear hv
  have HB' : Hid (Below w.heap.size w w2) := HB.out.trans (b2.mono HB.out.size)
  clear HB
  have HB := HB'
  clear HB'
  have z2 : w1.heap.size ≤ w2.heap.size := b2.size
  have A1 : Hid (OwnT (layThing.slice 40) w2 (w1.heap.size) (w2.heap.size) (p) [.slice a1o (p).1 a1c]) := o2
  clear o2 b2
  go_wp2_with fail
  refine (toBytes_is _ q w.heap.size _ (layBytes.rd_below R2.out HB.out (Nat.le_refl _)) HB.out.size hbb).mono ?_
  rintro e w3 ⟨v3, rfl, o3, b3⟩
  obtain ⟨a2o, a2c, hv⟩ := bytes_formT o3
  obtain rfl := one_eq hv
  clear hv
  have A1' : Hid (OwnT (layThing.slice 40) w3 (w1.heap.size) (w2.heap.size) (p) [.slice a1o (p).1 a1c]) := A1.out.call b3
  clear A1
  have A1 := A1'
  clear A1'
  have HB' : Hid (Below w.heap.size w w3) := HB.out.trans (b3.mono HB.out.size)
  clear HB
  have HB := HB'
  clear HB'
  have z3 : w2.heap.size ≤ w3.heap.size := b3.size
  have A2 : Hid (OwnT layBytes w3 (w2.heap.size) (w3.heap.size) (q) [.slice a2o (q).1 a2c]) := o3
  clear o3 b3
  go_wp2_with fail
  refine (specPut_any p bn q at_ _ _ _ _ _ A1.out.rd A2.out.rd (by omega) (by omega) hsz hbs hbb HA.out).mono ?_
  rintro e w4 ⟨v4, rfl, o4, b4⟩
  obtain ⟨s0o, s0c, hv⟩ := sl_formT o4
  obtain rfl := one_eq hv
  clear hv
  have A1' : Hid (OwnT (layThing.slice 40) w4 (w1.heap.size) (w2.heap.size) (p) [.slice a1o (p).1 a1c]) := A1.out.call b4
  clear A1
  have A1 := A1'
  clear A1'
  have A2' : Hid (OwnT layBytes w4 (w2.heap.size) (w3.heap.size) (q) [.slice a2o (q).1 a2c]) := A2.out.call b4
  clear A2
  have A2 := A2'
  clear A2'
  have HB' : Hid (Below w.heap.size w w4) := HB.out.trans (b4.mono HB.out.size)
  clear HB
  have HB := HB'
  clear HB'
  have z4 : w3.heap.size ≤ w4.heap.size := b4.size
  have S0 : Hid (OwnT (layThing.slice 40) w4 (w3.heap.size) (w4.heap.size) (putL p bn q at_) [.slice s0o (putL p bn q at_).1 s0c]) := o4
  clear o4 b4
  clear A1
  clear A2
  go_wp2_with fail
  refine (toThingS_is _ p w.heap.size _ ((layThing.slice 40).rd_below R0.out HB.out (Nat.le_refl _)) HB.out.size hsz).mono ?_
  rintro e w5 ⟨v5, rfl, o5, b5⟩
  obtain ⟨x0o, x0c, hv⟩ := sl_formT o5
  obtain rfl := one_eq hv
  clear hv
  have S0' : Hid (OwnT (layThing.slice 40) w5 (w3.heap.size) (w4.heap.size) (putL p bn q at_) [.slice s0o (putL p bn q at_).1 s0c]) := S0.out.call b5
  clear S0
  have S0 := S0'
  clear S0'
  have HB' : Hid (Below w.heap.size w w5) := HB.out.trans (b5.mono HB.out.size)
  clear HB
  have HB := HB'
  clear HB'
  have z5 : w4.heap.size ≤ w5.heap.size := b5.size
  have X0 : Hid (OwnT (layThing.slice 40) w5 (w4.heap.size) (w5.heap.size) (p) [.slice x0o (p).1 x0c]) := o5
  clear o5 b5
  go_wp2_with fail
  refine (toBytes_is _ q w.heap.size _ (layBytes.rd_below R2.out HB.out (Nat.le_refl _)) HB.out.size hbb).mono ?_
  rintro e w6 ⟨v6, rfl, o6, b6⟩
  obtain ⟨x2o, x2c, hv⟩ := bytes_formT o6
  obtain rfl := one_eq hv
  clear hv
  have S0' : Hid (OwnT (layThing.slice 40) w6 (w3.heap.size) (w4.heap.size) (putL p bn q at_) [.slice s0o (putL p bn q at_).1 s0c]) := S0.out.call b6
  clear S0
  have S0 := S0'
  clear S0'
  have X0' : Hid (OwnT (layThing.slice 40) w6 (w4.heap.size) (w5.heap.size) (p) [.slice x0o (p).1 x0c]) := X0.out.call b6
  clear X0
  have X0 := X0'
  clear X0'
  have HB' : Hid (Below w.heap.size w w6) := HB.out.trans (b6.mono HB.out.size)
  clear HB
  have HB := HB'
  clear HB'
  have z6 : w5.heap.size ≤ w6.heap.size := b6.size
  have X2 : Hid (OwnT layBytes w6 (w5.heap.size) (w6.heap.size) (q) [.slice x2o (q).1 x2c]) := o6
  clear o6 b6
  go_wp2_with fail
  refine (implPut_any p bn q at_ _ _ _ _ _ X0.out.rd X2.out.rd (by omega) (by omega) hsz hbs hbb HA.out).mono ?_
  rintro e w7 ⟨v7, rfl, o7, b7⟩
  obtain ⟨g0o, g0c, hv⟩ := sl_formT o7
  obtain rfl := one_eq hv
  clear hv
  have S0' : Hid (OwnT (layThing.slice 40) w7 (w3.heap.size) (w4.heap.size) (putL p bn q at_) [.slice s0o (putL p bn q at_).1 s0c]) := S0.out.call b7
  clear S0
  have S0 := S0'
  clear S0'
  have X0' : Hid (OwnT (layThing.slice 40) w7 (w4.heap.size) (w5.heap.size) (p) [.slice x0o (p).1 x0c]) := X0.out.call b7
  clear X0
  have X0 := X0'
  clear X0'
  have X2' : Hid (OwnT layBytes w7 (w5.heap.size) (w6.heap.size) (q) [.slice x2o (q).1 x2c]) := X2.out.call b7
  clear X2
  have X2 := X2'
  clear X2'
  have HB' : Hid (Below w.heap.size w w7) := HB.out.trans (b7.mono HB.out.size)
  clear HB
  have HB := HB'
  clear HB'
  have z7 : w6.heap.size ≤ w7.heap.size := b7.size
  have G0 : Hid (OwnT (layThing.slice 40) w7 (w6.heap.size) (w7.heap.size) (putL p bn q at_) [.slice g0o (putL p bn q at_).1 g0c]) := o7
  clear o7 b7
  go_wp2_with fail
  refine (eqThingS_is _ _ _ _ _ _ G0.out.rd S0.out.rd (by omega) (by omega)).mono ?_
  rintro e w8 ⟨rfl, b8⟩
  have S0' : Hid (OwnT (layThing.slice 40) w8 (w3.heap.size) (w4.heap.size) (putL p bn q at_) [.slice s0o (putL p bn q at_).1 s0c]) := S0.out.call b8
  clear S0
  have S0 := S0'
  clear S0'
  have X0' : Hid (OwnT (layThing.slice 40) w8 (w4.heap.size) (w5.heap.size) (p) [.slice x0o (p).1 x0c]) := X0.out.call b8
  clear X0
  have X0 := X0'
  clear X0'
  have X2' : Hid (OwnT layBytes w8 (w5.heap.size) (w6.heap.size) (q) [.slice x2o (q).1 x2c]) := X2.out.call b8
  clear X2
  have X2 := X2'
  clear X2'
  have G0' : Hid (OwnT (layThing.slice 40) w8 (w6.heap.size) (w7.heap.size) (putL p bn q at_) [.slice g0o (putL p bn q at_).1 g0c]) := G0.out.call b8
  clear G0
  have G0 := G0'
  clear G0'
  have HB' : Hid (Below w.heap.size w w8) := HB.out.trans (b8.mono HB.out.size)
  clear HB
  have HB := HB'
  clear HB'
  have z8 : w7.heap.size ≤ w8.heap.size := b8.size
  clear b8
  go_wp2_with fail
  refine (toThingS_is _ p w.heap.size _ ((layThing.slice 40).rd_below R0.out HB.out (Nat.le_refl _)) HB.out.size hsz).mono ?_
  rintro e w9 ⟨v9, rfl, o9, b9⟩
  obtain ⟨a3o, a3c, hv⟩ := sl_formT o9
  obtain rfl := one_eq hv
  clear hv
  have S0' : Hid (OwnT (layThing.slice 40) w9 (w3.heap.size) (w4.heap.size) (putL p bn q at_) [.slice s0o (putL p bn q at_).1 s0c]) := S0.out.call b9
  clear S0
  have S0 := S0'
  clear S0'
  have X0' : Hid (OwnT (layThing.slice 40) w9 (w4.heap.size) (w5.heap.size) (p) [.slice x0o (p).1 x0c]) := X0.out.call b9
  clear X0
  have X0 := X0'
  clear X0'
  have X2' : Hid (OwnT layBytes w9 (w5.heap.size) (w6.heap.size) (q) [.slice x2o (q).1 x2c]) := X2.out.call b9
  clear X2
  have X2 := X2'
  clear X2'
  have G0' : Hid (OwnT (layThing.slice 40) w9 (w6.heap.size) (w7.heap.size) (putL p bn q at_) [.slice g0o (putL p bn q at_).1 g0c]) := G0.out.call b9
  clear G0
  have G0 := G0'
  clear G0'
  have HB' : Hid (Below w.heap.size w w9) := HB.out.trans (b9.mono HB.out.size)
  clear HB
  have HB := HB'
  clear HB'
  have z9 : w8.heap.size ≤ w9.heap.size := b9.size
  have A3 : Hid (OwnT (layThing.slice 40) w9 (w8.heap.size) (w9.heap.size) (p) [.slice a3o (p).1 a3c]) := o9
  clear o9 b9
  go_wp2_with fail
  refine (eqThingS_is _ _ _ _ _ _ X0.out.rd A3.out.rd (by omega) (by omega)).mono ?_
  rintro e w10 ⟨rfl, b10⟩
  have S0' : Hid (OwnT (layThing.slice 40) w10 (w3.heap.size) (w4.heap.size) (putL p bn q at_) [.slice s0o (putL p bn q at_).1 s0c]) := S0.out.call b10
  clear S0
  have S0 := S0'
  clear S0'
  have X0' : Hid (OwnT (layThing.slice 40) w10 (w4.heap.size) (w5.heap.size) (p) [.slice x0o (p).1 x0c]) := X0.out.call b10
  clear X0
  have X0 := X0'
  clear X0'
  have X2' : Hid (OwnT layBytes w10 (w5.heap.size) (w6.heap.size) (q) [.slice x2o (q).1 x2c]) := X2.out.call b10
  clear X2
  have X2 := X2'
  clear X2'
  have G0' : Hid (OwnT (layThing.slice 40) w10 (w6.heap.size) (w7.heap.size) (putL p bn q at_) [.slice g0o (putL p bn q at_).1 g0c]) := G0.out.call b10
  clear G0
  have G0 := G0'
  clear G0'
  have A3' : Hid (OwnT (layThing.slice 40) w10 (w8.heap.size) (w9.heap.size) (p) [.slice a3o (p).1 a3c]) := A3.out.call b10
  clear A3
  have A3 := A3'
  clear A3'
  have HB' : Hid (Below w.heap.size w w10) := HB.out.trans (b10.mono HB.out.size)
  clear HB
  have HB := HB'
  clear HB'
  have z10 : w9.heap.size ≤ w10.heap.size := b10.size
  clear b10
  clear A3
  go_wp2_with fail
  refine (toBytes_is _ q w.heap.size _ (layBytes.rd_below R2.out HB.out (Nat.le_refl _)) HB.out.size hbb).mono ?_
  rintro e w11 ⟨v11, rfl, o11, b11⟩
  obtain ⟨a4o, a4c, hv⟩ := bytes_formT o11
  obtain rfl := one_eq hv
  clear hv
  have S0' : Hid (OwnT (layThing.slice 40) w11 (w3.heap.size) (w4.heap.size) (putL p bn q at_) [.slice s0o (putL p bn q at_).1 s0c]) := S0.out.call b11
  clear S0
  have S0 := S0'
  clear S0'
  have X0' : Hid (OwnT (layThing.slice 40) w11 (w4.heap.size) (w5.heap.size) (p) [.slice x0o (p).1 x0c]) := X0.out.call b11
  clear X0
  have X0 := X0'
  clear X0'
  have X2' : Hid (OwnT layBytes w11 (w5.heap.size) (w6.heap.size) (q) [.slice x2o (q).1 x2c]) := X2.out.call b11
  clear X2
  have X2 := X2'
  clear X2'
  have G0' : Hid (OwnT (layThing.slice 40) w11 (w6.heap.size) (w7.heap.size) (putL p bn q at_) [.slice g0o (putL p bn q at_).1 g0c]) := G0.out.call b11
  clear G0
  have G0 := G0'
  clear G0'
  have HB' : Hid (Below w.heap.size w w11) := HB.out.trans (b11.mono HB.out.size)
  clear HB
  have HB := HB'
  clear HB'
  have z11 : w10.heap.size ≤ w11.heap.size := b11.size
  have A4 : Hid (OwnT layBytes w11 (w10.heap.size) (w11.heap.size) (q) [.slice a4o (q).1 a4c]) := o11
  clear o11 b11
  go_wp2_with fail
  refine (eqBytes_is _ _ _ _ _ _ X2.out.rd A4.out.rd (by omega) (by omega)).mono ?_
  rintro e w12 ⟨rfl, b12⟩
  have S0' : Hid (OwnT (layThing.slice 40) w12 (w3.heap.size) (w4.heap.size) (putL p bn q at_) [.slice s0o (putL p bn q at_).1 s0c]) := S0.out.call b12
  clear S0
  have S0 := S0'
  clear S0'
  have X0' : Hid (OwnT (layThing.slice 40) w12 (w4.heap.size) (w5.heap.size) (p) [.slice x0o (p).1 x0c]) := X0.out.call b12
  clear X0
  have X0 := X0'
  clear X0'
  have X2' : Hid (OwnT layBytes w12 (w5.heap.size) (w6.heap.size) (q) [.slice x2o (q).1 x2c]) := X2.out.call b12
  clear X2
  have X2 := X2'
  clear X2'
  have G0' : Hid (OwnT (layThing.slice 40) w12 (w6.heap.size) (w7.heap.size) (putL p bn q at_) [.slice g0o (putL p bn q at_).1 g0c]) := G0.out.call b12
  clear G0
  have G0 := G0'
  clear G0'
  have A4' : Hid (OwnT layBytes w12 (w10.heap.size) (w11.heap.size) (q) [.slice a4o (q).1 a4c]) := A4.out.call b12
  clear A4
  have A4 := A4'
  clear A4'
  have HB' : Hid (Below w.heap.size w w12) := HB.out.trans (b12.mono HB.out.size)
  clear HB
  have HB := HB'
  clear HB'
  have z12 : w11.heap.size ≤ w12.heap.size := b12.size
  clear b12
  clear A4
  go_wp2_with fail
  refine (mark_S markThingS_is X0.out (1) (by omega)).mono ?_
  rintro e w13 ⟨rfl, o13, c13⟩
  have S0' : Hid (OwnT (layThing.slice 40) w13 (w3.heap.size) (w4.heap.size) (putL p bn q at_) [.slice s0o (putL p bn q at_).1 s0c]) := S0.out.chg c13 (by omega)
  clear S0
  have S0 := S0'
  clear S0'
  have X2' : Hid (OwnT layBytes w13 (w5.heap.size) (w6.heap.size) (q) [.slice x2o (q).1 x2c]) := X2.out.chg c13 (by omega)
  clear X2
  have X2 := X2'
  clear X2'
  have G0' : Hid (OwnT (layThing.slice 40) w13 (w6.heap.size) (w7.heap.size) (putL p bn q at_) [.slice g0o (putL p bn q at_).1 g0c]) := G0.out.chg c13 (by omega)
  clear G0
  have G0 := G0'
  clear G0'
  have HB' : Hid (Below w.heap.size w w13) := HB.out.trans (c13.bel (by omega) HB.out.size)
  clear HB
  have HB := HB'
  clear HB'
  have z13 : w12.heap.size ≤ w13.heap.size := c13.size
  clear X0
  have X0 : Hid (OwnT (layThing.slice 40) w13 (w4.heap.size) (w5.heap.size) (mkSl cThingD mkThingD (1) (p)) [.slice x0o (p).1 x0c]) := o13
  clear o13 c13
  go_wp2_with fail
  refine (mark_S markBytes_is X2.out (1 + cSl cThingD p) (show 1 + cSl cThingD p + q.1 ≤ 100000000 by omega)).mono ?_
  rintro e w14 ⟨rfl, o14, c14⟩
  have S0' : Hid (OwnT (layThing.slice 40) w14 (w3.heap.size) (w4.heap.size) (putL p bn q at_) [.slice s0o (putL p bn q at_).1 s0c]) := S0.out.chg c14 (by omega)
  clear S0
  have S0 := S0'
  clear S0'
  have X0' : Hid (OwnT (layThing.slice 40) w14 (w4.heap.size) (w5.heap.size) (mkSl cThingD mkThingD (1) (p)) [.slice x0o (p).1 x0c]) := X0.out.chg c14 (by omega)
  clear X0
  have X0 := X0'
  clear X0'
  have G0' : Hid (OwnT (layThing.slice 40) w14 (w6.heap.size) (w7.heap.size) (putL p bn q at_) [.slice g0o (putL p bn q at_).1 g0c]) := G0.out.chg c14 (by omega)
  clear G0
  have G0 := G0'
  clear G0'
  have HB' : Hid (Below w.heap.size w w14) := HB.out.trans (c14.bel (by omega) HB.out.size)
  clear HB
  have HB := HB'
  clear HB'
  have z14 : w13.heap.size ≤ w14.heap.size := c14.size
  clear X2
  have X2 : Hid (OwnT layBytes w14 (w5.heap.size) (w6.heap.size) (mkBytes (1 + cSl cThingD p) (q)) [.slice x2o (q).1 x2c]) := o14
  clear o14 c14
  have hk0 : ¬ (((1 + cSl cThingD p + lenD q : Nat)) : Int) < 0 := by omega
  go_wp2_with fail
  refine (eqThingS_is _ _ _ _ _ _ G0.out.rd S0.out.rd (by omega) (by omega)).mono ?_
  rintro e w15 ⟨rfl, b15⟩
  have S0' : Hid (OwnT (layThing.slice 40) w15 (w3.heap.size) (w4.heap.size) (putL p bn q at_) [.slice s0o (putL p bn q at_).1 s0c]) := S0.out.call b15
  clear S0
  have S0 := S0'
  clear S0'
  have X0' : Hid (OwnT (layThing.slice 40) w15 (w4.heap.size) (w5.heap.size) (mkSl cThingD mkThingD (1) (p)) [.slice x0o (p).1 x0c]) := X0.out.call b15
  clear X0
  have X0 := X0'
  clear X0'
  have X2' : Hid (OwnT layBytes w15 (w5.heap.size) (w6.heap.size) (mkBytes (1 + cSl cThingD p) (q)) [.slice x2o (q).1 x2c]) := X2.out.call b15
  clear X2
  have X2 := X2'
  clear X2'
  have G0' : Hid (OwnT (layThing.slice 40) w15 (w6.heap.size) (w7.heap.size) (putL p bn q at_) [.slice g0o (putL p bn q at_).1 g0c]) := G0.out.call b15
  clear G0
  have G0 := G0'
  clear G0'
  have HB' : Hid (Below w.heap.size w w15) := HB.out.trans (b15.mono HB.out.size)
  clear HB
  have HB := HB'
  clear HB'
  have z15 : w14.heap.size ≤ w15.heap.size := b15.size
  clear b15
  go_wp2_with fail
  refine (mark_S markThingS_is G0.out (1) (by omega)).mono ?_
  rintro e w16 ⟨rfl, o16, c16⟩
  have S0' : Hid (OwnT (layThing.slice 40) w16 (w3.heap.size) (w4.heap.size) (putL p bn q at_) [.slice s0o (putL p bn q at_).1 s0c]) := S0.out.chg c16 (by omega)
  clear S0
  have S0 := S0'
  clear S0'
  have X0' : Hid (OwnT (layThing.slice 40) w16 (w4.heap.size) (w5.heap.size) (mkSl cThingD mkThingD (1) (p)) [.slice x0o (p).1 x0c]) := X0.out.chg c16 (by omega)
  clear X0
  have X0 := X0'
  clear X0'
  have X2' : Hid (OwnT layBytes w16 (w5.heap.size) (w6.heap.size) (mkBytes (1 + cSl cThingD p) (q)) [.slice x2o (q).1 x2c]) := X2.out.chg c16 (by omega)
  clear X2
  have X2 := X2'
  clear X2'
  have HB' : Hid (Below w.heap.size w w16) := HB.out.trans (c16.bel (by omega) HB.out.size)
  clear HB
  have HB := HB'
  clear HB'
  have z16 : w15.heap.size ≤ w16.heap.size := c16.size
  clear G0
  have G0 : Hid (OwnT (layThing.slice 40) w16 (w6.heap.size) (w7.heap.size) (mkSl cThingD mkThingD (1) (putL p bn q at_)) [.slice g0o (putL p bn q at_).1 g0c]) := o16
  clear o16 c16
  go_wp2_with fail
  refine (heldThingS_is _ (putL p bn q at_) _ 1 _ G0.out.rd (by omega) (by omega)).mono ?_
  rintro e w17 ⟨rfl, b17⟩
  have S0' : Hid (OwnT (layThing.slice 40) w17 (w3.heap.size) (w4.heap.size) (putL p bn q at_) [.slice s0o (putL p bn q at_).1 s0c]) := S0.out.call b17
  clear S0
  have S0 := S0'
  clear S0'
  have X0' : Hid (OwnT (layThing.slice 40) w17 (w4.heap.size) (w5.heap.size) (mkSl cThingD mkThingD (1) (p)) [.slice x0o (p).1 x0c]) := X0.out.call b17
  clear X0
  have X0 := X0'
  clear X0'
  have X2' : Hid (OwnT layBytes w17 (w5.heap.size) (w6.heap.size) (mkBytes (1 + cSl cThingD p) (q)) [.slice x2o (q).1 x2c]) := X2.out.call b17
  clear X2
  have X2 := X2'
  clear X2'
  have G0' : Hid (OwnT (layThing.slice 40) w17 (w6.heap.size) (w7.heap.size) (mkSl cThingD mkThingD (1) (putL p bn q at_)) [.slice g0o (putL p bn q at_).1 g0c]) := G0.out.call b17
  clear G0
  have G0 := G0'
  clear G0'
  have HB' : Hid (Below w.heap.size w w17) := HB.out.trans (b17.mono HB.out.size)
  clear HB
  have HB := HB'
  clear HB'
  have z17 : w16.heap.size ≤ w17.heap.size := b17.size
  clear b17
  have hq0 : ¬ (((1 + cSl cThingD (putL p bn q at_) : Nat)) : Int) < 0 := by omega
  have hqe : ((((1 + cSl cThingD (putL p bn q at_) : Nat)) : Int) != (((1 + cSl cThingD (putL p bn q at_) : Nat)) : Int)) = false := by simp
  go_wp2_with fail
  refine (toThingS_is _ p w.heap.size _ ((layThing.slice 40).rd_below R0.out HB.out (Nat.le_refl _)) HB.out.size hsz).mono ?_
  rintro e w18 ⟨v18, rfl, o18, b18⟩
  obtain ⟨a5o, a5c, hv⟩ := sl_formT o18
  obtain rfl := one_eq hv
  clear hv
  have S0' : Hid (OwnT (layThing.slice 40) w18 (w3.heap.size) (w4.heap.size) (putL p bn q at_) [.slice s0o (putL p bn q at_).1 s0c]) := S0.out.call b18
  clear S0
  have S0 := S0'
  clear S0'
  have X0' : Hid (OwnT (layThing.slice 40) w18 (w4.heap.size) (w5.heap.size) (mkSl cThingD mkThingD (1) (p)) [.slice x0o (p).1 x0c]) := X0.out.call b18
  clear X0
  have X0 := X0'
  clear X0'
  have X2' : Hid (OwnT layBytes w18 (w5.heap.size) (w6.heap.size) (mkBytes (1 + cSl cThingD p) (q)) [.slice x2o (q).1 x2c]) := X2.out.call b18
  clear X2
  have X2 := X2'
  clear X2'
  have G0' : Hid (OwnT (layThing.slice 40) w18 (w6.heap.size) (w7.heap.size) (mkSl cThingD mkThingD (1) (putL p bn q at_)) [.slice g0o (putL p bn q at_).1 g0c]) := G0.out.call b18
  clear G0
  have G0 := G0'
  clear G0'
  have HB' : Hid (Below w.heap.size w w18) := HB.out.trans (b18.mono HB.out.size)
  clear HB
  have HB := HB'
  clear HB'
  have z18 : w17.heap.size ≤ w18.heap.size := b18.size
  have A5 : Hid (OwnT (layThing.slice 40) w18 (w17.heap.size) (w18.heap.size) (p) [.slice a5o (p).1 a5c]) := o18
  clear o18 b18
  go_wp2_with fail
  refine (toBytes_is _ q w.heap.size _ (layBytes.rd_below R2.out HB.out (Nat.le_refl _)) HB.out.size hbb).mono ?_
  rintro e w19 ⟨v19, rfl, o19, b19⟩
  obtain ⟨a6o, a6c, hv⟩ := bytes_formT o19
  obtain rfl := one_eq hv
  clear hv
  have S0' : Hid (OwnT (layThing.slice 40) w19 (w3.heap.size) (w4.heap.size) (putL p bn q at_) [.slice s0o (putL p bn q at_).1 s0c]) := S0.out.call b19
  clear S0
  have S0 := S0'
  clear S0'
  have X0' : Hid (OwnT (layThing.slice 40) w19 (w4.heap.size) (w5.heap.size) (mkSl cThingD mkThingD (1) (p)) [.slice x0o (p).1 x0c]) := X0.out.call b19
  clear X0
  have X0 := X0'
  clear X0'
  have X2' : Hid (OwnT layBytes w19 (w5.heap.size) (w6.heap.size) (mkBytes (1 + cSl cThingD p) (q)) [.slice x2o (q).1 x2c]) := X2.out.call b19
  clear X2
  have X2 := X2'
  clear X2'
  have G0' : Hid (OwnT (layThing.slice 40) w19 (w6.heap.size) (w7.heap.size) (mkSl cThingD mkThingD (1) (putL p bn q at_)) [.slice g0o (putL p bn q at_).1 g0c]) := G0.out.call b19
  clear G0
  have G0 := G0'
  clear G0'
  have A5' : Hid (OwnT (layThing.slice 40) w19 (w17.heap.size) (w18.heap.size) (p) [.slice a5o (p).1 a5c]) := A5.out.call b19
  clear A5
  have A5 := A5'
  clear A5'
  have HB' : Hid (Below w.heap.size w w19) := HB.out.trans (b19.mono HB.out.size)
  clear HB
  have HB := HB'
  clear HB'
  have z19 : w18.heap.size ≤ w19.heap.size := b19.size
  have A6 : Hid (OwnT layBytes w19 (w18.heap.size) (w19.heap.size) (q) [.slice a6o (q).1 a6c]) := o19
  clear o19 b19
  go_wp2_with fail
  refine (implPut_any p bn q at_ _ _ _ _ _ A5.out.rd A6.out.rd (by omega) (by omega) hsz hbs hbb HA.out).mono ?_
  rintro e w20 ⟨v20, rfl, o20, b20⟩
  obtain ⟨h0o, h0c, hv⟩ := sl_formT o20
  obtain rfl := one_eq hv
  clear hv
  have S0' : Hid (OwnT (layThing.slice 40) w20 (w3.heap.size) (w4.heap.size) (putL p bn q at_) [.slice s0o (putL p bn q at_).1 s0c]) := S0.out.call b20
  clear S0
  have S0 := S0'
  clear S0'
  have X0' : Hid (OwnT (layThing.slice 40) w20 (w4.heap.size) (w5.heap.size) (mkSl cThingD mkThingD (1) (p)) [.slice x0o (p).1 x0c]) := X0.out.call b20
  clear X0
  have X0 := X0'
  clear X0'
  have X2' : Hid (OwnT layBytes w20 (w5.heap.size) (w6.heap.size) (mkBytes (1 + cSl cThingD p) (q)) [.slice x2o (q).1 x2c]) := X2.out.call b20
  clear X2
  have X2 := X2'
  clear X2'
  have G0' : Hid (OwnT (layThing.slice 40) w20 (w6.heap.size) (w7.heap.size) (mkSl cThingD mkThingD (1) (putL p bn q at_)) [.slice g0o (putL p bn q at_).1 g0c]) := G0.out.call b20
  clear G0
  have G0 := G0'
  clear G0'
  have A5' : Hid (OwnT (layThing.slice 40) w20 (w17.heap.size) (w18.heap.size) (p) [.slice a5o (p).1 a5c]) := A5.out.call b20
  clear A5
  have A5 := A5'
  clear A5'
  have A6' : Hid (OwnT layBytes w20 (w18.heap.size) (w19.heap.size) (q) [.slice a6o (q).1 a6c]) := A6.out.call b20
  clear A6
  have A6 := A6'
  clear A6'
  have HB' : Hid (Below w.heap.size w w20) := HB.out.trans (b20.mono HB.out.size)
  clear HB
  have HB := HB'
  clear HB'
  have z20 : w19.heap.size ≤ w20.heap.size := b20.size
  have H0 : Hid (OwnT (layThing.slice 40) w20 (w19.heap.size) (w20.heap.size) (putL p bn q at_) [.slice h0o (putL p bn q at_).1 h0c]) := o20
  clear o20 b20
  go_wp2_with fail
  refine (eqThingS_is _ _ _ _ _ _ H0.out.rd S0.out.rd (by omega) (by omega)).mono ?_
  rintro e w21 ⟨rfl, b21⟩
  have S0' : Hid (OwnT (layThing.slice 40) w21 (w3.heap.size) (w4.heap.size) (putL p bn q at_) [.slice s0o (putL p bn q at_).1 s0c]) := S0.out.call b21
  clear S0
  have S0 := S0'
  clear S0'
  have X0' : Hid (OwnT (layThing.slice 40) w21 (w4.heap.size) (w5.heap.size) (mkSl cThingD mkThingD (1) (p)) [.slice x0o (p).1 x0c]) := X0.out.call b21
  clear X0
  have X0 := X0'
  clear X0'
  have X2' : Hid (OwnT layBytes w21 (w5.heap.size) (w6.heap.size) (mkBytes (1 + cSl cThingD p) (q)) [.slice x2o (q).1 x2c]) := X2.out.call b21
  clear X2
  have X2 := X2'
  clear X2'
  have G0' : Hid (OwnT (layThing.slice 40) w21 (w6.heap.size) (w7.heap.size) (mkSl cThingD mkThingD (1) (putL p bn q at_)) [.slice g0o (putL p bn q at_).1 g0c]) := G0.out.call b21
  clear G0
  have G0 := G0'
  clear G0'
  have A5' : Hid (OwnT (layThing.slice 40) w21 (w17.heap.size) (w18.heap.size) (p) [.slice a5o (p).1 a5c]) := A5.out.call b21
  clear A5
  have A5 := A5'
  clear A5'
  have A6' : Hid (OwnT layBytes w21 (w18.heap.size) (w19.heap.size) (q) [.slice a6o (q).1 a6c]) := A6.out.call b21
  clear A6
  have A6 := A6'
  clear A6'
  have H0' : Hid (OwnT (layThing.slice 40) w21 (w19.heap.size) (w20.heap.size) (putL p bn q at_) [.slice h0o (putL p bn q at_).1 h0c]) := H0.out.call b21
  clear H0
  have H0 := H0'
  clear H0'
  have HB' : Hid (Below w.heap.size w w21) := HB.out.trans (b21.mono HB.out.size)
  clear HB
  have HB := HB'
  clear HB'
  have z21 : w20.heap.size ≤ w21.heap.size := b21.size
  clear b21
  go_wp2_with fail
  refine (heldThingS_is _ (putL p bn q at_) _ 1 _ G0.out.rd (by omega) (by omega)).mono ?_
  rintro e w22 ⟨rfl, b22⟩
  have S0' : Hid (OwnT (layThing.slice 40) w22 (w3.heap.size) (w4.heap.size) (putL p bn q at_) [.slice s0o (putL p bn q at_).1 s0c]) := S0.out.call b22
  clear S0
  have S0 := S0'
  clear S0'
  have X0' : Hid (OwnT (layThing.slice 40) w22 (w4.heap.size) (w5.heap.size) (mkSl cThingD mkThingD (1) (p)) [.slice x0o (p).1 x0c]) := X0.out.call b22
  clear X0
  have X0 := X0'
  clear X0'
  have X2' : Hid (OwnT layBytes w22 (w5.heap.size) (w6.heap.size) (mkBytes (1 + cSl cThingD p) (q)) [.slice x2o (q).1 x2c]) := X2.out.call b22
  clear X2
  have X2 := X2'
  clear X2'
  have G0' : Hid (OwnT (layThing.slice 40) w22 (w6.heap.size) (w7.heap.size) (mkSl cThingD mkThingD (1) (putL p bn q at_)) [.slice g0o (putL p bn q at_).1 g0c]) := G0.out.call b22
  clear G0
  have G0 := G0'
  clear G0'
  have A5' : Hid (OwnT (layThing.slice 40) w22 (w17.heap.size) (w18.heap.size) (p) [.slice a5o (p).1 a5c]) := A5.out.call b22
  clear A5
  have A5 := A5'
  clear A5'
  have A6' : Hid (OwnT layBytes w22 (w18.heap.size) (w19.heap.size) (q) [.slice a6o (q).1 a6c]) := A6.out.call b22
  clear A6
  have A6 := A6'
  clear A6'
  have H0' : Hid (OwnT (layThing.slice 40) w22 (w19.heap.size) (w20.heap.size) (putL p bn q at_) [.slice h0o (putL p bn q at_).1 h0c]) := H0.out.call b22
  clear H0
  have H0 := H0'
  clear H0'
  have HB' : Hid (Below w.heap.size w w22) := HB.out.trans (b22.mono HB.out.size)
  clear HB
  have HB := HB'
  clear HB'
  have z22 : w21.heap.size ≤ w22.heap.size := b22.size
  clear b22
  go_wp2
  go_ret
  exact ⟨rfl, HB.out⟩

set_option maxRecDepth 100000 in
theorem fnExactPutThing_lifted (os : Os) (started : os.Started) (H : Type) (enc : TypeId × Value → H) :
    ReturnsInHanded {} Try.checked os 3 .any (Rows.fnExactPutThingSpec.pre6 enc Try.prog Try.f3 Rows.fnExactPutThingRow.domain false) (Rows.fnExactPutThingSpec.post enc Try.prog Try.f3 false true false false) := by
  refine returnsInHanded_of_change (C := Try.checked) frame_own started (by kernel_rfl) Try.func3
    (ChangeSpec.witness6 (enc := enc) (C := Try.checked) false ⟨#[], #[.slice none 0 0, .string ByteArray.empty, .slice none 0 0], []⟩ 8 (by kernel_rfl) (by kernel_rfl) (by kernel_rfl) (by kernel_rfl)) ?_
  intro W base args ds gs before hval0 hW hcnd _
  have hval : ∀ (j : Nat) t v, Try.f3.params[j]? = some t → args[j]? = some v → Value.okWide Try.prog W .any base t v := hval0
  have hW' := hW
  obtain ⟨p, q, hA0, hV, rfl, hfz, hnd⟩ := hW
  have hA : DataW.TrodAll enc Try.prog W 0 (fun _ => true) true Try.f3.params.toList args.toList ds p := hA0
  rw [Try.params3] at hA hval
  obtain ⟨v0, vs0, d0, ds0, p0, q0, hargs, rfl, rfl, h0, r0⟩ := trodAll_cons hA
  obtain ⟨v1, vs1, d1, ds1, p1, q1, rfl, rfl, rfl, h1, r1⟩ := trodAll_cons r0
  obtain ⟨v2, vs2, d2, ds2, p2, q2, rfl, rfl, rfl, h2, r2⟩ := trodAll_cons r1
  obtain ⟨rfl, rfl, rfl⟩ := trodAll_nil r2
  obtain rfl : args = #[v0, v1, v2] := by cases args; simp_all
  obtain ⟨rfl, rfl⟩ := trodVars_none hV
  have k0 := h0
  have lt0 : ∀ x ∈ p0, x.block < W.heap.size := by obtain ⟨m, hm⟩ := k0; exact DataW.trod_lt m _ _ _ hm
  have k2 := h2
  have lt2 : ∀ x ∈ p2, x.block < W.heap.size := by obtain ⟨m, hm⟩ := k2; exact DataW.trod_lt m _ _ _ hm
  obtain ⟨sa0, sl0, sc0, rfl⟩ := okWide_slice Try.underlying22 (hval 0 22 v0 rfl rfl)
  obtain ⟨a0, rd0⟩ := slice_of_trod opensThings h0
  obtain ⟨n1, rfl, rfl, rfl, hn1⟩ := ChangeMaps.open_string Try.underlying9 (hval 1 9 v1 rfl rfl) h1
  obtain ⟨sa2, sl2, sc2, rfl⟩ := okWide_slice Try.underlying23 (hval 2 23 v2 rfl rfl)
  obtain ⟨a2, rd2⟩ := slice_of_trod opensBytesU h2
  clear hA0 hval0
  refine (fnExactPutThing_walk a0 (.slice sa0 sl0 sc0) n1 a2 (.slice sa2 sl2 sc2) W rd0 hn1 rd2).mono fun e W' ⟨he, bel⟩ => ?_
  subst he
  exact ⟨_, rfl, _, _, _, [], _, [], hW', trodAll_mk1 (shut_bool Try.underlying4 _), (trodAll_cons_mk (Below.trod frame_laid (by kernel_rfl) (of_decide_eq_true (by kernel_rfl)) k0 bel lt0) (trodAll_cons_mk (ChangeMaps.shut_string Try.underlying9 hn1) (trodAll_cons_mk (Below.trod frame_laid (by kernel_rfl) (of_decide_eq_true (by kernel_rfl)) k2 bel lt2) trodAll_mk0))), rfl, bel.frame _, fun h => by cases h⟩

theorem fnExactPutThing_proved : Rows.FnExactPutThingSaid :=
  OpenClaim.holds_of_wide 3 Try.f3 rfl rfl rfl rfl rfl rfl rfl ⟨rfl, rfl, rfl, rfl, rfl⟩ rfl rfl rfl rfl rfl (by kernel_rfl) Try.func3 (by kernel_rfl)
    (of_decide_eq_true (by kernel_rfl)) (by unfold Func.isWrapper; first | (rw [if_pos (by decide +kernel)]; kernel_rfl) | (rw [if_neg (by decide +kernel)]; exact ⟨rfl, rfl⟩))
    (fun os started H enc _ => fnExactPutThing_lifted os started H enc)
#print axioms fnExactPutThing_proved
end Go.Proofs.Ytapnjoophlckoaa
