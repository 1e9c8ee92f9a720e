/- SpongeSoaks: a digest is block by block of the padded bytes, permuted. -/
import Derived.Test.YthjmjccggkejhaaDoorSoc
import Derived.Test.YthjmjccggkejhaaDoorSpr
import Derived.Test.YthjmjccggkejhaaDoorSpo
namespace Go.Proofs.YthjmjccggkejhaaDoor
open Go.ChangeShapes Go.WideShapes Go.ChangeAt Go.RowKit Go.Shelf
attribute [local go_sem] Oper.semAt_some

/-- Lanes that lie there, and those of the rounds. -/
def SoR (w3 : World) (G : Nat → Nat) (W0 : World) (g7 : Nat) (f : Nat → Nat) (W : World) : Prop := SoP w3 G W0 W ∧ Ln W g7 f ∧ w3.heap.size + 3 ≤ g7
theorem SoR.ext {w3 : World} {G : Nat → Nat} {W0 : World} {g7 : Nat} {f : Nat → Nat} {W W' : World} (h : SoR w3 G W0 g7 f W) (he : Ext W W') : SoR w3 G W0 g7 f W' := ⟨h.1.ext he, h.2.1.ext he, h.2.2⟩
theorem so_self (f : Nat → Nat) : (!same25 f f) = false := by rw [(same25_iff f f).2 fun _ _ => rfl]; rfl
theorem Ln.lt2 {W : World} {g : Nat} {f : Nat → Nat} (h : Ln W g f) : g < W.heap.size := Cs.lt h
/-- What lies there behind all rounds. -/
def SoS (w3 : World) (G : Nat → Nat) (D : Nat) (W : World) : Prop := Ln W w3.heap.size G ∧ Ext w3 W ∧ W.heap[D]? = some (.deferred (some [])) ∧ D < W.heap.size
theorem SoS.ext {w3 : World} {G : Nat → Nat} {D : Nat} {W W' : World} (h : SoS w3 G D W) (he : Ext W W') : SoS w3 G D W' := ⟨h.1.ext he, h.2.1.trans he, (Below.block he D h.2.2.2).trans h.2.2.1, Nat.lt_of_lt_of_le h.2.2.2 he.size⟩
theorem SoS.put {w3 : World} {G : Nat → Nat} {D b : Nat} {W W' : World} (h : SoS w3 G D W) (hg : W.grownBy W' (some b)) (h1 : w3.heap.size < b) (h2 : D < b) : SoS w3 G D W' :=
  ⟨h.1.kept hg (some_ne (by omega)), h.2.1.grown hg (by omega), (hg.block D h.2.2.2 (by intro e; injection e with e; omega)).trans h.2.2.1, Nat.lt_of_lt_of_le h.2.2.2 hg.size⟩
def SoT (w3 : World) (G : Nat → Nat) (D g : Nat) (W : World) : Prop := SoS w3 G D W ∧ Ib W g (dgB G)
theorem SoT.ext {w3 : World} {G : Nat → Nat} {D g : Nat} {W W' : World} (h : SoT w3 G D g W) (he : Ext W W') : SoT w3 G D g W' := ⟨h.1.ext he, Cs.ext h.2 he⟩
/-- The bytes of a digest. -/
def idM (f : Nat → Nat) : List UInt8 := (List.range 32).map fun i => UInt8.ofNat (f i)
theorem idM_len (f : Nat → Nat) : (idM f).length = 32 := by simp [idM]
theorem idM_get (f : Nat → Nat) (i : Nat) (hi : i < 32) : (idM f).getD i 0 = UInt8.ofNat (f i) := by simp [idM, hi]
theorem id_part {W : World} {g : Nat} {f : Nat → Nat} (h : Ib W g f) (hf : ∀ i, f i < 256) (q : Nat) (hq : q ≤ 32) : Bs W (.slice (some ⟨g, q, none⟩) (32 - q) (32 - q)) ((idM f).drop q) := by
  have hl : ((idM f).drop q).length = 32 - q := by rw [List.length_drop, idM_len]
  refine ⟨some ⟨g, q, none⟩, 32 - q, by rw [hl], by rw [hl]; exact Nat.le_refl _, by unfold maxLen; omega, fun _ => ⟨g, q, rfl, fun i hi => ?_⟩⟩
  rw [hl] at hi
  rw [h.cell (q + i) (by omega)]
  have e : ((idM f).drop q).getD i 0 = (idM f).getD (q + i) 0 := by simp [List.getD]
  rw [e, idM_get f _ (by omega)]
  unfold bv
  rw [UInt8.toNat_ofNat', Nat.mod_eq_of_lt (hf _)]
theorem so_div (F : Nat → Nat) (i k : Nat) (hk : k < 8) : F i / 2 ^ (8 * k) % 256 = dgB F (8 * i + k) := by
  unfold dgB
  rw [show (8 * i + k) / 8 = i by omega, show (8 * i + k) % 8 = k by omega]
theorem id_le (G : Nat → Nat) (i : Nat) (hi : i < 4) (n : Nat) (hn : n ≤ 8) : leS ((idM (dgB G)).drop (8 * i)) 0 n = G i % 2 ^ (8 * n) := by
  induction n with
  | zero => show 0 = _; rw [Nat.mul_zero, Nat.pow_zero, Nat.mod_one]
  | succ n ih =>
    show leS _ 0 n + (((idM (dgB G)).drop (8 * i)).getD (0 + n) 0).toNat * 2 ^ (8 * n) = _
    have e : ((idM (dgB G)).drop (8 * i)).getD (0 + n) 0 = (idM (dgB G)).getD (8 * i + n) 0 := by simp [List.getD]
    have hb : dgB G (8 * i + n) < 256 := Nat.mod_lt _ (by decide)
    rw [ih (by omega), e, idM_get _ _ (by omega), UInt8.toNat_ofNat', Nat.mod_eq_of_lt hb, ← so_div G i n (by omega), show 8 * (n + 1) = 8 * n + 8 by omega, Nat.pow_add, Nat.mod_mul, Nat.mul_comm (2 ^ (8 * n))]
set_option maxRecDepth 100000 in
theorem id_sliceL (g r : Nat) (hr : r < 4) (W : World) : (Instr.sliceAt 27 (.pointer (some ⟨g, 0, none⟩)) (some (.int .i64 ((8 * r : Nat) : Int))) none none).run Tryd.prog W = .ok (.slice (some ⟨g, 8 * r, none⟩) (32 - 8 * r) (32 - 8 * r)) W :=
  match r, hr with
  | 0, _ => rfl
  | 1, _ => rfl
  | 2, _ => rfl
  | 3, _ => rfl
theorem results_flag {fn : Func} {p : Tmp} (h : fn.results = #[.cell p 4]) (tmps : Array Value) (W : World) (g : Nat) (b : Bool) (hp : tmps.getD p undef = .pointer (some ⟨g, 0, none⟩)) (hg : Cs W g 4 #[.bool b]) : (results fn tmps).run Tryd.prog W = .ok (.bool b) W := by
  have hc := Cs.cell hg 0 _ rfl
  have hp' : tmps[p]?.getD undef = .pointer (some ⟨g, 0, none⟩) := by simpa using hp
  simp [results, h, hp', asAddr, loadVar, run_underlying Tryd.underlying4, hc]

set_option maxRecDepth 100000 in
set_option maxHeartbeats 2000000 in
theorem soaks_any (v0 : Value) (l : List UInt8) (w : World) (hx : Bs w v0 l) (ht : Tb w) :
    Calls Tryd.prog 6 #[v0] w (RetT w) := by
  have HX := Lib.hid hx
  have HT := Lib.hid ht
  have HE0 : Hid (Ext w (w.alloc (.cells #[.bool false] 4))) := (Ext.refl w).alloc _
  have HG0 : Hid (Cs (w.alloc (.cells #[.bool false] 4)) w.heap.size 4 #[.bool false]) := Cs.new _ _ _ _ rfl
  obtain ⟨A0, c0, rfl, h1, h2, _⟩ := hx
  clear ht
  refine (callsIn_wide (n := 9)).1 ?_
  refine callsIn_of_wp_marks Tryd.func6 rfl trivial ?_ rfl
  simp only [Tryd.ntmps6, List.size_toArray, List.length_cons, List.length_nil, Nat.reduceAdd, Nat.reduceSub, Array.replicate_succ, Array.replicate_zero, List.push_toArray, List.append_toArray, List.nil_append, List.cons_append]
  gi_wp2_with fail
  refine ⟨trivial, ?_⟩
  refine (callsIn_wide.2 (wakes_any _ (HT.out.ext HE0.out))).mono ?_
  rintro e w1 ⟨rfl, he⟩
  have HE1 := Lib.hid (HE0.out.trans he)
  have HG1 := Lib.hid (HG0.out.ext he)
  clear he HE0 HG0
  gi_wp2_with fail
  refine ⟨trivial, ?_⟩
  refine (callsIn_wide.2 (few_any _ l _ (HX.out.ext HE1.out))).mono ?_
  rintro e w2 ⟨v5, rfl, ho, he⟩
  have HB := Lib.hid ho.bs
  have HE2 := Lib.hid (HE1.out.trans he)
  have HG2 := Lib.hid (HG1.out.ext he)
  have hyl : (l.take 800).length ≤ 800 := by simp; omega
  clear he ho HE1 HG1 HX h1 h2
  generalize l.take 800 = y at *
  obtain ⟨A5, c5, rfl, z5, z6, _⟩ := HB.out
  unfold maxLen at z6
  gi_wp2_with fail
  refine ⟨trivial, ?_⟩
  refine (callsIn_wide.2 (pad_any _ y _ HB.out (by omega))).mono ?_
  rintro e w3 ⟨pv, rfl, hown, he⟩
  have HB3 := Lib.hid (HB.out.ext he)
  have HE3 := Lib.hid (HE2.out.trans he)
  have HG3 := Lib.hid (HG2.out.ext he)
  have hPl : 0 < (padL y).length := by rw [padL_len]; unfold padN; omega
  obtain ⟨bb, cap, rfl, _, _, _, _⟩ := hown.form hPl
  have HP := Lib.hid hown.bs
  have hcap : (padL y).length ≤ cap := by obtain ⟨_, _, e1, h1, _⟩ := hown.bs; injection e1 with e2 e3 e4; omega
  have hcm : cap ≤ maxLen := by obtain ⟨_, _, e1, _, h1, _⟩ := hown.bs; injection e1 with e2 e3 e4; omega
  unfold maxLen at hcm
  have hPN : (padL y).length = 136 * (padN y / 136) := by rw [padL_len]; unfold padN; omega
  have hN1 : 0 < padN y / 136 := by unfold padN; omega
  have hNa : y.length < 136 * (padN y / 136) := by unfold padN; omega
  have hNb : 136 * (padN y / 136) ≤ y.length + 136 := by unfold padN; omega
  have HQ : Hid (sumF y = dgB (sk (padL y) (padN y / 136))) := rfl
  have HPT := Lib.hid (padL_take y)
  clear he hown HE2 HG2 HB hPl
  generalize padL y = P at *
  generalize padN y / 136 = N at *
  rw [hPN] at hcap ⊢
  have HPN := Lib.hid hPN
  clear hPN
  have HHP := Lib.hid (fun W (h : Bs W (.slice (some ⟨bb, 0, none⟩) (136 * N) cap) P) h2 => hasPre_yes _ (.slice A5 y.length c5) y (P.drop y.length) W (by rw [← HPT.out]; exact h) h2)
  have HP := Lib.hid (show Bs w3 (.slice (some ⟨bb, 0, none⟩) (136 * N) cap) P by have := HP.out; rwa [HPN.out] at this)
  generalize hn : 136 * N = n at *
  have HNN := Lib.hid hn
  generalize hm : y.length = m at *
  have HM := Lib.hid hm
  clear hm
  have d1' : (n : Int) % 136 = 0 := by omega
  have d1 : (n : Int).tmod 136 = 0 := by rw [Int.tmod_eq_emod_of_nonneg (by omega)]; exact d1'
  have d2 : decide ((n : Int) ≤ (m : Int)) = false := decide_eq_false (by omega)
  have d3 : decide ((m : Int) + 136 < (n : Int)) = false := decide_eq_false (by omega)
  have d2' : decide (n ≤ m) = false := decide_eq_false (by omega)
  have d3' : decide (m + 136 < n) = false := decide_eq_false (by omega)
  clear hn
  gi_wp2_with fail
  refine ⟨trivial, ?_⟩
  refine (callsIn_wide.2 (HHP.out _ HP.out HB3.out)).mono ?_
  rintro e w4 ⟨rfl, rfl⟩
  clear HHP
  gi_wp2_with fail
  refine ⟨trivial, ?_⟩
  have HL0 : Hid (Ln (w3.alloc (.cells (lc fun _ => 0) 35)) w3.heap.size (fun _ => 0)) := Cs.new _ _ _ _ rfl
  have HL1 : Hid (Ext w3 (w3.alloc (.cells (lc fun _ => 0) 35))) := (Ext.refl w3).alloc _
  have HL2 : Hid ((w3.alloc (.cells (lc fun _ => 0) 35)).heap.size = w3.heap.size + 1) := by simp [Hid]
  rw [lc_zero] at HL0 HL1 HL2
  refine (callsIn_wide.2 (chunk_any _ _ _ _)).mono ?_
  rintro e w5 ⟨rfl, c1, c2, hz, he⟩
  rw [HL2.out] at c1 c2 hz ⊢
  have HI0 : Hid (SoI w3 (skL P N []) w5) := Lib.hid ⟨HL0.out.ext he, HL1.out.trans he, by omega⟩
  clear HL0 HL1 HL2 he
  gi_wp2_with fail
  have HNC := Lib.hid (show 136 * N ≤ 1000000136 ∧ 136 * N ≤ cap by rw [HNN.out]; omega)
  have c1 : Cs w5 (w3.heap.size + 1) 24 #[.slice (some ⟨bb, 0, none⟩) (136 * N) cap] := by rw [HNN.out]; exact c1
  refine wpIn_rangeFunc_ownG rfl (by decide) (gf := 55) (lb := #[.pointer (some ⟨w3.heap.size + 1, 0, none⟩), .pointer (some ⟨w3.heap.size + 1 + 1, 0, none⟩)]) rfl trivial (enters_of Tryd.func55 (by kernel_rfl) rfl)
    (chunk1_stops 8 N bb 0 cap (w3.heap.size + 1) (w3.heap.size + 1 + 1) (by decide) HNC.out.1 HNC.out.2 (by omega) w5 c1 c2) Kp2.tr (Kp2.putObj (by omega) (by omega)) (Below.refl _ _) (fun _ => rfl)
    (fun pre W => SoI w3 (skL P N pre) W) (fun _ _ _ => False) (SoI.own (by omega) (skL P N)) (fun _ _ _ _ _ hs _ _ => hs) HI0.out
    (fun x => { tmps := #[.slice A5 m c5, undef, .pointer (some ⟨w.heap.size, 0, none⟩), .slice (some ⟨bb, 0, none⟩) n cap, .pointer (some ⟨w3.heap.size, 0, none⟩), .slice (some ⟨bb, 136 * (x % N), none⟩) 136 136, undef, undef, undef, undef, undef, undef, undef, .bool true, .bool false, .slice A0 l.length c0, .slice A5 m c5, .slice A5 m c5, .slice (some ⟨bb, 0, none⟩) n cap, .slice (some ⟨bb, 0, none⟩) n cap, .int .i64 (n : Int), .int .i64 0, .bool false, .bool false, .slice (some ⟨bb, 0, none⟩) n cap, .int .i64 (n : Int), .slice A5 m c5, .int .i64 (m : Int), .bool false, .bool false, .bool false, .slice (some ⟨bb, 0, none⟩) n cap, .int .i64 (n : Int), .slice A5 m c5, .int .i64 (m : Int), .int .i64 ((m : Int) + 136), .bool false, .bool false, .bool false, .slice (some ⟨bb, 0, none⟩) n cap, .slice A5 m c5, .bool true, .bool false, .bool false, .slice (some ⟨bb, 0, none⟩) n cap, .func (.func 55) #[] #[.pointer (some ⟨w3.heap.size + 1, 0, none⟩), .pointer (some ⟨w3.heap.size + 1 + 1, 0, none⟩)], .slice (some ⟨bb, 136 * (x % N), none⟩) 136 136, undef, undef, undef, undef, undef, undef, undef, undef, undef, undef, undef, undef, undef, undef, undef, undef, undef, undef, undef, undef, undef, undef, undef, undef, undef, undef, undef, undef, undef, undef, undef, undef, undef, undef, undef, undef, undef, undef, undef, undef, undef, undef, undef, undef, undef, undef, undef], defers := [] }) ?assign ?body ?done ?stop
  case assign =>
    intro l2 x W K hK
    unfold cEnc
    gi_wp2
    exact hK
  case body =>
    rintro l2 pre x W0 hI hlen
    have HP0 := Lib.hid (SoI.start hI)
    have hxN : x % N < N := Nat.mod_lt _ hN1
    have hfm : 136 * (x % N) + 136 ≤ n := Nat.le_trans (show 136 * (x % N) + 136 ≤ 136 * N by omega) (Nat.le_of_eq HNN.out)
    have HSN := Lib.hid (skL_snoc P N pre x)
    have HFl := Lib.hid (skL_lt P N pre)
    generalize 136 * (x % N) = fm at *
    have HLT := Lib.hid (fun j (hj : j < 17) W (h : Ext w3 W) => show Calls Tryd.prog 34 #[.slice (some ⟨bb, fm + 8 * j, none⟩) (136 - 8 * j) (136 - 8 * j)] W fun e w' => e = .returned (.int .u64 (leS (P.drop fm) (8 * j) 8 : Nat)) ∧ W = w' from by
      have := little_any (.slice (some ⟨bb, fm + 8 * j, none⟩) (136 - 8 * j) (136 - 8 * j)) ((P.drop (fm + 8 * j)).take (136 - 8 * j)) W (part_bs (HP.out.ext h) (fm + 8 * j) (136 - 8 * j) (by rw [HPN.out]; omega)) (by rw [List.length_take, List.length_drop, HPN.out]; omega)
      rwa [part_le P fm j hj] at this)
    clear hI hlen HI0 HP HB3 HPT c1 c2 hxN
    generalize P.drop fm = Q at *
    generalize hF : skL P N pre = F at *
    clear hF
    gi_wp2_with fail
    gi_loopw [47] (fun u wr => ∃ r : Nat, r ≤ 17 ∧ u = .int .i64 r ∧ Hid (SoP w3 (laF F Q r) W0 wr)) (fun u _ => 17 - (intOf u).toNat)
    case atStart => exact ⟨0, by omega, rfl, HP0⟩
    case round =>
      clear HP0
      obtain ⟨r, hj, rfl, HP0⟩ := hrel
      by_cases hlj : r < 17
      · have hdj : decide ((r : Int) < 17) = true := decide_eq_true (by omega)
        have HLJ := Lib.hid (fun W (h : SoP w3 (laF F Q r) W0 W) => HLT.out r hlj W h.2.1)
        have HPU := Lib.hid (fun W (h : SoP w3 (laF F Q r) W0 W) => show SoP w3 (laF F Q (r + 1)) W0 (W.setCell ⟨w3.heap.size, r, none⟩ (.int .u64 (laF F Q r r ^^^ leS Q (8 * r) 8 : Nat))) from h.put r _ (by
          have e : laF F Q r r = F r := by unfold laF; rw [if_neg (by omega)]
          rw [e]
          exact laF_step F Q r))
        have HCL := Lib.hid (fun W (h : SoP w3 (laF F Q r) W0 W) => h.1.cell r (by omega))
        have hx : bits .xor .u64 (laF F Q r r : Int) (leS Q (8 * r) 8 : Int) = ((laF F Q r r ^^^ leS Q (8 * r) 8 : Nat) : Int) := u64_xor_nat (laF F Q r r) (leS Q (8 * r) 8) (laF_lt F Q HFl.out r r (by omega)) (leS_lt Q _ 8)
        generalize laF F Q r r ^^^ leS Q (8 * r) 8 = zz at *
        generalize laF F Q r r = yy at *
        generalize leS Q (8 * r) 8 = xv at *
        have a1 : (0 : Int) ≤ (r : Int) := by omega
        have a2 : (r : Int) < 25 := by omega
        generalize hq8 : 8 * r = q8 at *
        have a3 : 8 * (r : Int) = (q8 : Int) := by omega
        have a4 : IntKind.i64.wrap (8 * (r : Int)) = (q8 : Int) := by rw [IntWalk.i64_in _ (by omega)]; omega
        have a5 : (0 : Int) ≤ (q8 : Int) := by omega
        have a6 : (q8 : Int) ≤ 136 := by omega
        have a7 : ¬ 136 - q8 = 0 := by omega
        have a8 : q8 ≤ 136 := by omega
        have a9 : ¬ 136 = q8 := by omega
        have a10 : IntKind.i64.wrap (q8 : Int) = (q8 : Int) := IntWalk.i64_in _ (by omega)
        clear HLT hfm HFl HSN hq8
        gi_wp2_with fail
        refine wpIn_named fun a0 ha0 => ?_
        obtain ⟨fr, hfr⟩ : ∃ fr : (Nat → Value) → Act, ∀ V, fr V = ((((((((((a0.put (some 50) (V 0)).put (some 51) (V 1)).put (some 52) (V 2)).put (some 53) (V 3)).put (some 54) (V 4)).put (some 55) (V 5)).put (some 56) (V 6)).put (some 57) (V 7)).put (some 58) (V 8)).put (some 59) (V 9)) := ⟨fun V => ((((((((((a0.put (some 50) (V 0)).put (some 51) (V 1)).put (some 52) (V 2)).put (some 53) (V 3)).put (some 54) (V 4)).put (some 55) (V 5)).put (some 56) (V 6)).put (some 57) (V 7)).put (some 58) (V 8)).put (some 59) (V 9)), fun _ => rfl⟩
        rw [ha0] at hfr
        simp only [Act.put, List.setIfInBounds_toArray, List.set_cons_zero, List.set_cons_succ] at hfr
        have HFR := Lib.hid hfr
        clear hfr
        refine wpIn_region_inv (by kernel_rfl) (by kernel_rfl) (fun L A W => ∃ V : Nat → Value, A = fr V ∧ Vals (fun j => ([some (.int .i64 (r : Nat)), some (.pointer (some ⟨w3.heap.size, r, none⟩)), some (.int .u64 (yy : Nat)), some (.slice (some ⟨bb, fm, none⟩) 136 136), some (.int .i64 (r : Nat)), some (.int .i64 (q8 : Nat)), some (.slice (some ⟨bb, fm + q8, none⟩) (136 - q8) (136 - q8)), some (.int .u64 (xv : Nat)), some (.int .u64 (zz : Nat)), some (.pointer (some ⟨w3.heap.size, r, none⟩)), none] : List (Option Value)).getD j none) L V ∧ (L 10 = false → SoP w3 (laF F Q r) W0 W) ∧ (L 10 = true → SoP w3 (laF F Q (r + 1)) W0 W)) ?_ ⟨?_, ?_, ?_, ?_, ?_, ?_, ?_, ?_, ?_, ?_, ?_, trivial⟩ ?_
        · refine ⟨fun j => a0.tmps.getD (([50, 51, 52, 53, 54, 55, 56, 57, 58, 59, 0] : List Nat).getD j 0) undef, ?_, Vals.no _ _ _ (far_none _ _ rfl), fun _ => HP0.out.ext (Ext.refl _).drew, fun h0 => absurd h0 (by decide)⟩
          rw [HFR.out, ha0]
          rfl
        all_goals clear ha0
        · rintro L A W K hL hC hW ⟨V, rfl, HV, s0, s1⟩ hK
          have H := Lib.hid (show ∀ W', Ext W W' → K (fr (upd V 0 (.int .i64 (r : Nat)))) W' from fun W' he => hK _ _ ⟨upd V 0 (.int .i64 (r : Nat)), rfl, HV.up 0 _ (fun x hx => Option.some.inj hx), fun h0 => SoP.ext (s0 (by unfold More at h0; rwa [if_neg (by decide)] at h0)) he, fun h0 => SoP.ext (s1 (more_ne h0 rfl)) he⟩)
          clear hK hC hW hL HV s0 s1
          rw [HFR.out]
          gi_wp2_with fail
          show K _ _
          have := H.out _ (Ext.refl _)
          rw [HFR.out] at this
          exact this
        · rintro L A W K hL hC hW ⟨V, rfl, HV, s0, s1⟩ hK
          have e0 : V 0 = .int .i64 (r : Nat) := HV 0 _ rfl (hW 0 rfl)
          have H := Lib.hid (show ∀ W', Ext W W' → K (fr (upd V 1 (.pointer (some ⟨w3.heap.size, r, none⟩)))) W' from fun W' he => hK _ _ ⟨upd V 1 (.pointer (some ⟨w3.heap.size, r, none⟩)), rfl, HV.up 1 _ (fun x hx => Option.some.inj hx), fun h0 => SoP.ext (s0 (by unfold More at h0; rwa [if_neg (by decide)] at h0)) he, fun h0 => SoP.ext (s1 (more_ne h0 rfl)) he⟩)
          have HU := Lib.hid (show (upd V 1 (.pointer (some ⟨w3.heap.size, r, none⟩))) 0 = .int .i64 (r : Nat) from e0)
          clear hK hC hW hL HV s0 s1
          rw [HFR.out]
          rw [e0]
          clear e0
          gi_wp2_with fail
          show K _ _
          have := H.out _ (Ext.refl _)
          rw [HFR.out] at this
          obtain u0 := HU.out
          rw [u0] at this
          exact this
        · rintro L A W K hL hC hW ⟨V, rfl, HV, s0, s1⟩ hK
          have e1 : V 1 = .pointer (some ⟨w3.heap.size, r, none⟩) := HV 1 _ rfl (hW 1 rfl)
          have hB := s0 (hC.no (hC.no hL 8 _ rfl rfl) 10 _ rfl rfl)
          have H := Lib.hid (show ∀ W', Ext W W' → K (fr (upd V 2 (.int .u64 (yy : Nat)))) W' from fun W' he => hK _ _ ⟨upd V 2 (.int .u64 (yy : Nat)), rfl, HV.up 2 _ (fun x hx => Option.some.inj hx), fun h0 => SoP.ext (s0 (by unfold More at h0; rwa [if_neg (by decide)] at h0)) he, fun h0 => SoP.ext (s1 (more_ne h0 rfl)) he⟩)
          have HU := Lib.hid (show (upd V 2 (.int .u64 (yy : Nat))) 1 = .pointer (some ⟨w3.heap.size, r, none⟩) from e1)
          clear hK hC hW hL HV s0 s1
          rw [HFR.out]
          rw [e1]
          clear e1
          have hcl := HCL.out _ hB
          clear hB
          gi_wp2_with fail
          show K _ _
          have := H.out _ (Ext.refl _)
          rw [HFR.out] at this
          obtain u1 := HU.out
          rw [u1] at this
          exact this
        · rintro L A W K hL hC hW ⟨V, rfl, HV, s0, s1⟩ hK
          have H := Lib.hid (show ∀ W', Ext W W' → K (fr (upd V 3 (.slice (some ⟨bb, fm, none⟩) 136 136))) W' from fun W' he => hK _ _ ⟨upd V 3 (.slice (some ⟨bb, fm, none⟩) 136 136), rfl, HV.up 3 _ (fun x hx => Option.some.inj hx), fun h0 => SoP.ext (s0 (by unfold More at h0; rwa [if_neg (by decide)] at h0)) he, fun h0 => SoP.ext (s1 (more_ne h0 rfl)) he⟩)
          clear hK hC hW hL HV s0 s1
          rw [HFR.out]
          gi_wp2_with fail
          show K _ _
          have := H.out _ (Ext.refl _)
          rw [HFR.out] at this
          exact this
        · rintro L A W K hL hC hW ⟨V, rfl, HV, s0, s1⟩ hK
          have H := Lib.hid (show ∀ W', Ext W W' → K (fr (upd V 4 (.int .i64 (r : Nat)))) W' from fun W' he => hK _ _ ⟨upd V 4 (.int .i64 (r : Nat)), rfl, HV.up 4 _ (fun x hx => Option.some.inj hx), fun h0 => SoP.ext (s0 (by unfold More at h0; rwa [if_neg (by decide)] at h0)) he, fun h0 => SoP.ext (s1 (more_ne h0 rfl)) he⟩)
          clear hK hC hW hL HV s0 s1
          rw [HFR.out]
          gi_wp2_with fail
          show K _ _
          have := H.out _ (Ext.refl _)
          rw [HFR.out] at this
          exact this
        · rintro L A W K hL hC hW ⟨V, rfl, HV, s0, s1⟩ hK
          have e4 : V 4 = .int .i64 (r : Nat) := HV 4 _ rfl (hW 4 rfl)
          have H := Lib.hid (show ∀ W', Ext W W' → K (fr (upd V 5 (.int .i64 (q8 : Nat)))) W' from fun W' he => hK _ _ ⟨upd V 5 (.int .i64 (q8 : Nat)), rfl, HV.up 5 _ (fun x hx => Option.some.inj hx), fun h0 => SoP.ext (s0 (by unfold More at h0; rwa [if_neg (by decide)] at h0)) he, fun h0 => SoP.ext (s1 (more_ne h0 rfl)) he⟩)
          have HU := Lib.hid (show (upd V 5 (.int .i64 (q8 : Nat))) 4 = .int .i64 (r : Nat) from e4)
          clear hK hC hW hL HV s0 s1
          rw [HFR.out]
          rw [e4]
          clear e4
          gi_wp2_with fail
          show K _ _
          have := H.out _ (Ext.refl _)
          rw [HFR.out] at this
          obtain u4 := HU.out
          rw [u4] at this
          exact this
        · rintro L A W K hL hC hW ⟨V, rfl, HV, s0, s1⟩ hK
          have e3 : V 3 = .slice (some ⟨bb, fm, none⟩) 136 136 := HV 3 _ rfl (hW 3 rfl)
          have e5 : V 5 = .int .i64 (q8 : Nat) := HV 5 _ rfl (hW 5 rfl)
          have H := Lib.hid (show ∀ W', Ext W W' → K (fr (upd V 6 (.slice (some ⟨bb, fm + q8, none⟩) (136 - q8) (136 - q8)))) W' from fun W' he => hK _ _ ⟨upd V 6 (.slice (some ⟨bb, fm + q8, none⟩) (136 - q8) (136 - q8)), rfl, HV.up 6 _ (fun x hx => Option.some.inj hx), fun h0 => SoP.ext (s0 (by unfold More at h0; rwa [if_neg (by decide)] at h0)) he, fun h0 => SoP.ext (s1 (more_ne h0 rfl)) he⟩)
          have HU := Lib.hid (show (upd V 6 (.slice (some ⟨bb, fm + q8, none⟩) (136 - q8) (136 - q8))) 3 = .slice (some ⟨bb, fm, none⟩) 136 136 ∧ (upd V 6 (.slice (some ⟨bb, fm + q8, none⟩) (136 - q8) (136 - q8))) 5 = .int .i64 (q8 : Nat) from ⟨e3, e5⟩)
          clear hK hC hW hL HV s0 s1
          rw [HFR.out]
          rw [e3, e5]
          clear e3 e5
          gi_wp2_with fail
          show K _ _
          have := H.out _ (Ext.refl _)
          rw [HFR.out] at this
          obtain ⟨u3, u5⟩ := HU.out
          rw [u3, u5] at this
          exact this
        · rintro L A W K hL hC hW ⟨V, rfl, HV, s0, s1⟩ hK
          have e6 : V 6 = .slice (some ⟨bb, fm + q8, none⟩) (136 - q8) (136 - q8) := HV 6 _ rfl (hW 6 rfl)
          have hB := s0 (hC.no (hC.no hL 8 _ rfl rfl) 10 _ rfl rfl)
          have H := Lib.hid (show ∀ W', Ext W W' → K (fr (upd V 7 (.int .u64 (xv : Nat)))) W' from fun W' he => hK _ _ ⟨upd V 7 (.int .u64 (xv : Nat)), rfl, HV.up 7 _ (fun x hx => Option.some.inj hx), fun h0 => SoP.ext (s0 (by unfold More at h0; rwa [if_neg (by decide)] at h0)) he, fun h0 => SoP.ext (s1 (more_ne h0 rfl)) he⟩)
          have HU := Lib.hid (show (upd V 7 (.int .u64 (xv : Nat))) 6 = .slice (some ⟨bb, fm + q8, none⟩) (136 - q8) (136 - q8) from e6)
          clear hK hC hW hL HV s0 s1
          rw [HFR.out]
          rw [e6]
          clear e6
          gi_wp2_with fail
          refine ⟨trivial, ?_⟩
          refine (CallsIn.inRound _ (callsIn_wide.2 (HLJ.out _ hB))).mono ?_
          rintro e wx ⟨rfl, rfl⟩
          have := H.out _ (Ext.refl _)
          clear H
          gi_wp2_with fail
          show K _ _
          rw [HFR.out] at this
          obtain u6 := HU.out
          rw [u6] at this
          exact this
        · rintro L A W K hL hC hW ⟨V, rfl, HV, s0, s1⟩ hK
          have e2 : V 2 = .int .u64 (yy : Nat) := HV 2 _ rfl (hW 2 rfl)
          have e7 : V 7 = .int .u64 (xv : Nat) := HV 7 _ rfl (hW 7 rfl)
          have H := Lib.hid (show ∀ W', Ext W W' → K (fr (upd V 8 (.int .u64 (zz : Nat)))) W' from fun W' he => hK _ _ ⟨upd V 8 (.int .u64 (zz : Nat)), rfl, HV.up 8 _ (fun x hx => Option.some.inj hx), fun h0 => SoP.ext (s0 (by unfold More at h0; rwa [if_neg (by decide)] at h0)) he, fun h0 => SoP.ext (s1 (more_ne h0 rfl)) he⟩)
          have HU := Lib.hid (show (upd V 8 (.int .u64 (zz : Nat))) 2 = .int .u64 (yy : Nat) ∧ (upd V 8 (.int .u64 (zz : Nat))) 7 = .int .u64 (xv : Nat) from ⟨e2, e7⟩)
          clear hK hC hW hL HV s0 s1
          rw [HFR.out]
          rw [e2, e7]
          clear e2 e7
          gi_wp2_with fail
          show K _ _
          have := H.out _ (Ext.refl _)
          rw [HFR.out] at this
          obtain ⟨u2, u7⟩ := HU.out
          rw [u2, u7] at this
          exact this
        · rintro L A W K hL hC hW ⟨V, rfl, HV, s0, s1⟩ hK
          have e0 : V 0 = .int .i64 (r : Nat) := HV 0 _ rfl (hW 0 rfl)
          have H := Lib.hid (show ∀ W', Ext W W' → K (fr (upd V 9 (.pointer (some ⟨w3.heap.size, r, none⟩)))) W' from fun W' he => hK _ _ ⟨upd V 9 (.pointer (some ⟨w3.heap.size, r, none⟩)), rfl, HV.up 9 _ (fun x hx => Option.some.inj hx), fun h0 => SoP.ext (s0 (by unfold More at h0; rwa [if_neg (by decide)] at h0)) he, fun h0 => SoP.ext (s1 (more_ne h0 rfl)) he⟩)
          have HU := Lib.hid (show (upd V 9 (.pointer (some ⟨w3.heap.size, r, none⟩))) 0 = .int .i64 (r : Nat) from e0)
          clear hK hC hW hL HV s0 s1
          rw [HFR.out]
          rw [e0]
          clear e0
          gi_wp2_with fail
          show K _ _
          have := H.out _ (Ext.refl _)
          rw [HFR.out] at this
          obtain u0 := HU.out
          rw [u0] at this
          exact this
        · rintro L A W K hL hC hW ⟨V, rfl, HV, s0, s1⟩ hK
          have e9 : V 9 = .pointer (some ⟨w3.heap.size, r, none⟩) := HV 9 _ rfl (hW 9 rfl)
          have e8 : V 8 = .int .u64 (zz : Nat) := HV 8 _ rfl (hW 8 rfl)
          have hB := s0 hL
          have H := Lib.hid (show ∀ W', (SoP w3 (laF F Q (r + 1)) W0 W') → K (fr (V)) W' from fun W' hA => hK _ _ ⟨V, rfl, HV.st 10 rfl, fun h0 => absurd h0 (by unfold More; rw [if_pos rfl]; simp), fun h0 => hA⟩)
          have HU := Lib.hid (show (V) 9 = .pointer (some ⟨w3.heap.size, r, none⟩) ∧ (V) 8 = .int .u64 (zz : Nat) from ⟨e9, e8⟩)
          clear hK hC hW hL HV s0 s1
          rw [HFR.out]
          rw [e9, e8]
          clear e9 e8
          have HB := Lib.hid hB
          clear hB
          have hcl := HCL.out _ HB.out
          have hfz := Cs.frozen HB.out.1 r
          have HA := Lib.hid (HPU.out _ HB.out)
          gi_wp2_with fail
          show K _ _
          have := H.out _ HA.out
          rw [HFR.out] at this
          obtain ⟨u9, u8⟩ := HU.out
          rw [u9, u8] at this
          exact this
        · rintro L A W hL ⟨V, rfl, HV, s0, s1⟩
          have e0 : V 0 = .int .i64 (r : Nat) := HV 0 _ rfl (hL 0 (by simp))
          have e1 : V 1 = .pointer (some ⟨w3.heap.size, r, none⟩) := HV 1 _ rfl (hL 1 (by simp))
          have e2 : V 2 = .int .u64 (yy : Nat) := HV 2 _ rfl (hL 2 (by simp))
          have e3 : V 3 = .slice (some ⟨bb, fm, none⟩) 136 136 := HV 3 _ rfl (hL 3 (by simp))
          have e4 : V 4 = .int .i64 (r : Nat) := HV 4 _ rfl (hL 4 (by simp))
          have e5 : V 5 = .int .i64 (q8 : Nat) := HV 5 _ rfl (hL 5 (by simp))
          have e6 : V 6 = .slice (some ⟨bb, fm + q8, none⟩) (136 - q8) (136 - q8) := HV 6 _ rfl (hL 6 (by simp))
          have e7 : V 7 = .int .u64 (xv : Nat) := HV 7 _ rfl (hL 7 (by simp))
          have e8 : V 8 = .int .u64 (zz : Nat) := HV 8 _ rfl (hL 8 (by simp))
          have e9 : V 9 = .pointer (some ⟨w3.heap.size, r, none⟩) := HV 9 _ rfl (hL 9 (by simp))
          have hA := s1 (hL 10 (by simp))
          rw [HFR.out]
          rw [e0, e1, e2, e3, e4, e5, e6, e7, e8, e9]
          clear hL HV HFR e0 e1 e2 e3 e4 e5 e6 e7 e8 e9 s0 s1
          have HA := Lib.hid hA
          clear hA
          gi_wp2_with fail
          exact ⟨⟨r + 1, by omega, by go_num, HA⟩, by simp [intOf]; omega⟩
      · obtain rfl : r = 17 := by omega
        have HGl := Lib.hid (laF_lt F Q HFl.out 17)
        rw [← show 0 + 24 = 24 from rfl] at HSN
        generalize laF F Q 17 = G at *
        have HA7 := Lib.hid (HP0.out.ext ((Ext.refl wr).alloc (.cells (lc fun _ => 0) 35)))
        have hg7 := HP0.out.2.2.1
        rw [lc_zero] at HA7
        clear HLT hfm
        gi_wp2_with (first
          | ((with_reducible refine wpListIn_load_lanes ?_ (.tmp 4) ?_ w3.heap.size G ?_ ?_ ?_); (exact rfl); (exact rfl); (exact rfl); (exact HP0.out.1))
          | ((with_reducible refine wpListIn_store_lanes ?_ ?_ (.tmp 7) (.tmp 61) ?_ wr.heap.size (lc fun _ => 0) G ?_ ?_ ?_ ?_ ?_); (exact rfl); (exact rfl); (exact rfl); (exact rfl); (exact rfl); (exact Cs.new _ _ _ _ rfl); (exact lc_size _); intro w7 k7 g7; have HR7 : Hid (SoR w3 G W0 wr.heap.size (prmF G 0) w7) := Lib.hid ⟨HA7.out.other g7 (Cs.new _ _ _ _ rfl) hg7, k7, hg7⟩; clear k7 g7))
        generalize wr.heap.size = g7 at *
        gi_loopw [62] (fun u wr => ∃ t : Nat, t ≤ 24 ∧ u = .int .i64 t ∧ Hid (SoR w3 G W0 g7 (prmF G t) wr)) (fun u _ => 24 - (intOf u).toNat)
        case atStart => exact ⟨0, by omega, rfl, HR7⟩
        case round =>
          clear HP0 HR7 HA7
          obtain ⟨t, ht, rfl, HR7⟩ := hrel
          by_cases hlt : t < 24
          · have hdt : decide ((t : Int) < 24) = true := decide_eq_true (by omega)
            have hfl := prmF_lt G HGl.out t (by omega)
            have HRV := Lib.hid (fun W (h : Tb W) => round_any (prmF G t) (t : Int) W hfl h)
            rw [rndV_in (prmF G t) t hlt] at HRV
            have HTB := Lib.hid (HT.out.ext (HE3.out.trans HR7.out.1.2.1))
            have HPR := Lib.hid (show prmF G (t + 1) = rndF (prmF G t) t from rfl)
            clear hfl
            generalize rndF (prmF G t) t = f2 at *
            generalize prmF G t = f1 at *
            gi_wp2_with ((with_reducible refine wpListIn_load_lanes ?_ (.tmp 7) ?_ g7 f1 ?_ ?_ ?_); (exact rfl); (exact rfl); (exact rfl); (exact HR7.out.2.1))
            refine ⟨trivial, ?_⟩
            refine (CallsIn.inRound _ (callsIn_wide.2 (HRV.out _ HTB.out))).mono ?_
            rintro e w8 ⟨rfl, he⟩
            have HR8 := Lib.hid (HR7.out.ext he)
            have HR9 := Lib.hid (HR8.out.ext ((Ext.refl w8).alloc (.cells (lc fun _ => 0) 35)))
            have hg8 := HR8.out.2.2
            have hg9 := HR8.out.2.1.lt2
            have hg10 : w3.heap.size + 3 ≤ w8.heap.size := by omega
            rw [lc_zero] at HR9
            clear he HR7 HRV HTB
            gi_wp2_with (first
              | ((with_reducible refine wpListIn_store_lanes ?_ ?_ (.tmp 9) (.tmp 69) ?_ w8.heap.size (lc fun _ => 0) f2 ?_ ?_ ?_ ?_ ?_); (exact rfl); (exact rfl); (exact rfl); (exact rfl); (exact rfl); (exact Cs.new _ _ _ _ rfl); (exact lc_size _); intro w9 k9 g9; have K9 := Lib.hid k9; have HR10 : Hid (SoR w3 G W0 g7 f1 w9) := Lib.hid ⟨HR9.out.1.other g9 (Cs.new _ _ _ _ rfl) hg10, HR9.out.2.1.kept g9 (some_ne (by omega)), hg8⟩; clear k9 g9)
              | ((with_reducible refine wpListIn_load_lanes ?_ (.tmp 9) ?_ w8.heap.size f2 ?_ ?_ ?_); (exact rfl); (exact rfl); (exact rfl); (exact K9.out))
              | ((with_reducible refine wpListIn_store_lanes ?_ ?_ (.tmp 7) (.tmp 73) ?_ g7 (lc f1) f2 ?_ ?_ ?_ ?_ ?_); (exact rfl); (exact rfl); (exact rfl); (exact rfl); (exact rfl); (exact HR10.out.2.1); (exact lc_size _); intro w10 k10 g10; have HR11 : Hid (SoR w3 G W0 g7 f2 w10) := Lib.hid ⟨HR10.out.1.other g10 HR10.out.2.1 hg8, k10, hg8⟩; clear k10 g10))
            exact ⟨⟨t + 1, by omega, by go_num, by rw [HPR.out]; exact HR11⟩, by simp [intOf]; omega⟩
          · obtain rfl : t = 24 := by omega
            have HPM := Lib.hid (fun W (h : Tb W) => permute_any G W HGl.out h)
            have HTB := Lib.hid (HT.out.ext (HE3.out.trans HR7.out.1.2.1))
            have HSN : Hid (skL P N (pre ++ [x]) = prmF G 24) := HSN
            generalize prmF G 24 = f1 at *
            gi_wp2_with (first
              | ((with_reducible refine wpListIn_load_lanes ?_ (.tmp 4) ?_ w3.heap.size G ?_ ?_ ?_); (exact rfl); (exact rfl); (exact rfl); (exact HR7.out.1.1)))
            refine ⟨trivial, ?_⟩
            refine (CallsIn.inRound _ (callsIn_wide.2 (HPM.out _ HTB.out))).mono ?_
            rintro e w8 ⟨rfl, he⟩
            have HR8 := Lib.hid (HR7.out.ext he)
            have hg8 := HR8.out.2.2
            clear he HR7 HPM HTB
            gi_wp2_with (first
              | ((with_reducible refine wpListIn_store_lanes ?_ ?_ (.tmp 4) (.tmp 76) ?_ w3.heap.size (lc G) f1 ?_ ?_ ?_ ?_ ?_); (exact rfl); (exact rfl); (exact rfl); (exact rfl); (exact rfl); (exact HR8.out.1.1); (exact lc_size _); intro w9 k9 g9; have HR9 := Lib.hid (HR8.out.1.lanes k9 g9); have K9 := Lib.hid (HR8.out.2.1.kept g9 (some_ne (by omega))); clear k9 g9)
              | ((with_reducible refine wpListIn_load_lanes ?_ (.tmp 4) ?_ w3.heap.size f1 ?_ ?_ ?_); (exact rfl); (exact rfl); (exact rfl); (exact HR9.out.1))
              | ((with_reducible refine wpListIn_load_lanes ?_ (.tmp 7) ?_ g7 f1 ?_ ?_ ?_); (exact rfl); (exact rfl); (exact rfl); (exact K9.out))
              | ((with_reducible refine wpListIn_neq_lanes ?_ (.tmp 77) (.tmp 78) ?_ f1 f1 false ?_ ?_ (so_self f1) ?_); (exact rfl); (exact rfl); (exact rfl); (exact rfl)))
            refine ⟨HR9.out.2.2.2.1.from _, HR9.out.2.2.2.2, ?_⟩
            show SoI w3 (skL P N (pre ++ [x])) _
            rw [HSN.out]
            exact HR9.out.over
  case done =>
    rintro D ys W hD rfl hI hK
    have hI : SoI w3 (skL P N (List.range N)) W := hI
    rw [skL_all P N N (Nat.le_refl _) (by rw [HPN.out, HNN.out])] at hI
    have HI := Lib.hid hI
    have HK := Lib.hid hK
    have HDg := Lib.hid (sk_lt P N)
    clear hI hK HI0 c1 c2 HP HPT
    generalize sk P N = G at *
    gi_wp2_with fail
    refine ⟨trivial, ?_⟩
    refine (callsIn_wide.2 (sum_any _ y _ (HB3.out.ext HI.out.2.1) (by rw [HM.out]; omega) (HT.out.ext (HE3.out.trans HI.out.2.1)))).mono ?_
    rintro e w8 ⟨rfl, he⟩
    have HS8 := Lib.hid (show SoS w3 G D w8 from ⟨HI.out.1.ext he, HI.out.2.1.trans he, (Below.block he D (Array.getElem?_eq_some_iff.1 HK.out).1).trans HK.out, (Array.getElem?_eq_some_iff.1 (Below.block he D (Array.getElem?_eq_some_iff.1 HK.out).1 ▸ HK.out)).1⟩)
    rw [HQ.out]
    clear he HK HI HB3
    have HS9 := Lib.hid (HS8.out.ext ((Ext.refl w8).alloc (.cells (ic fun _ => 0) 27)))
    have hD8 := HS8.out.2.2.2
    have hg8 := HS8.out.1.lt2
    rw [ic_zero] at HS9
    gi_wp2_with ((with_reducible refine wpListIn_store_id ?_ ?_ (.tmp 11) (.tmp 81) ?_ w8.heap.size (ic fun _ => 0) (dgB G) ?_ ?_ ?_ ?_ ?_); (exact rfl); (exact rfl); (exact rfl); (exact rfl); (exact rfl); (exact Cs.new _ _ _ _ rfl); (exact ic_size _); intro w9 k9 g9; have HT9 : Hid (SoT w3 G D w8.heap.size w9) := Lib.hid ⟨HS9.out.put g9 hg8 (by omega), k9⟩; clear k9 g9)
    generalize w8.heap.size = g11 at *
    clear HS8 HS9
    gi_loopw [82] (fun u wr => ∃ r : Nat, r ≤ 4 ∧ u = .int .i64 r ∧ Hid (SoT w3 G D g11 wr)) (fun u _ => 4 - (intOf u).toNat)
    case atStart => exact ⟨0, by omega, rfl, HT9⟩
    case round =>
      clear HT9
      obtain ⟨r, hr, rfl, HT9⟩ := hrel
      by_cases hlr : r < 4
      · have hdr : decide ((r : Int) < 4) = true := decide_eq_true (by omega)
        have HCL := Lib.hid (fun W (h : SoT w3 G D g11 W) => h.1.1.cell r (by omega))
        have HLJ := Lib.hid (fun W (h : SoT w3 G D g11 W) => show Calls Tryd.prog 34 #[.slice (some ⟨g11, 8 * r, none⟩) (32 - 8 * r) (32 - 8 * r)] W fun e w' => e = .returned (.int .u64 (G r : Nat)) ∧ W = w' from by
          have := little_any (.slice (some ⟨g11, 8 * r, none⟩) (32 - 8 * r) (32 - 8 * r)) ((idM (dgB G)).drop (8 * r)) W (id_part h.2 (fun i => Nat.mod_lt _ (by decide)) (8 * r) (by omega)) (by rw [List.length_drop, idM_len]; omega)
          rwa [id_le G r hlr 8 (by omega), Nat.mod_eq_of_lt (HDg.out r (by omega))] at this)
        have HSL := Lib.hid (fun W => id_sliceL g11 r hlr W)
        generalize G r = yy at *
        have a1 : (0 : Int) ≤ (r : Int) := by omega
        have a2 : (r : Int) < 25 := by omega
        generalize hq8 : 8 * r = q8 at *
        have a3 : 8 * (r : Int) = (q8 : Int) := by omega
        have a4 : IntKind.i64.wrap (8 * (r : Int)) = (q8 : Int) := by rw [IntWalk.i64_in _ (by omega)]; omega
        have a10 : IntKind.i64.wrap (q8 : Int) = (q8 : Int) := IntWalk.i64_in _ (by omega)
        clear hq8
        gi_wp2_with fail
        refine wpIn_named fun a0 ha0 => ?_
        obtain ⟨fr, hfr⟩ : ∃ fr : (Nat → Value) → Act, ∀ V, fr V = ((((((((a0.put (some 85) (V 0)).put (some 86) (V 1)).put (some 87) (V 2)).put (some 88) (V 3)).put (some 89) (V 4)).put (some 90) (V 5)).put (some 91) (V 6)).put (some 92) (V 7)) := ⟨fun V => ((((((((a0.put (some 85) (V 0)).put (some 86) (V 1)).put (some 87) (V 2)).put (some 88) (V 3)).put (some 89) (V 4)).put (some 90) (V 5)).put (some 91) (V 6)).put (some 92) (V 7)), fun _ => rfl⟩
        rw [ha0] at hfr
        simp only [Act.put, List.setIfInBounds_toArray, List.set_cons_zero, List.set_cons_succ] at hfr
        have HFR := Lib.hid hfr
        clear hfr
        refine wpIn_region_inv (by kernel_rfl) (by kernel_rfl) (fun L A W => ∃ V : Nat → Value, A = fr V ∧ Vals (fun j => ([some (.int .i64 (r : Nat)), some (.pointer (some ⟨w3.heap.size, r, none⟩)), some (.int .u64 (yy : Nat)), some (.int .i64 (r : Nat)), some (.int .i64 (q8 : Nat)), some (.slice (some ⟨g11, q8, none⟩) (32 - q8) (32 - q8)), some (.int .u64 (yy : Nat)), some (.bool false)] : List (Option Value)).getD j none) L V ∧ (SoT w3 G D g11 W)) ?_ ⟨?_, ?_, ?_, ?_, ?_, ?_, ?_, ?_, trivial⟩ ?_
        · refine ⟨fun j => a0.tmps.getD (([85, 86, 87, 88, 89, 90, 91, 92] : List Nat).getD j 0) undef, ?_, Vals.no _ _ _ (far_none _ _ rfl), HT9.out.ext (Ext.refl _).drew⟩
          rw [HFR.out, ha0]
          rfl
        all_goals clear ha0
        · rintro L A W K hL hC hW ⟨V, rfl, HV, s0⟩ hK
          have H := Lib.hid (show ∀ W', Ext W W' → K (fr (upd V 0 (.int .i64 (r : Nat)))) W' from fun W' he => hK _ _ ⟨upd V 0 (.int .i64 (r : Nat)), rfl, HV.up 0 _ (fun x hx => Option.some.inj hx), SoT.ext s0 he⟩)
          clear hK hC hW hL HV s0
          rw [HFR.out]
          gi_wp2_with fail
          show K _ _
          have := H.out _ (Ext.refl _)
          rw [HFR.out] at this
          exact this
        · rintro L A W K hL hC hW ⟨V, rfl, HV, s0⟩ hK
          have e0 : V 0 = .int .i64 (r : Nat) := HV 0 _ rfl (hW 0 rfl)
          have H := Lib.hid (show ∀ W', Ext W W' → K (fr (upd V 1 (.pointer (some ⟨w3.heap.size, r, none⟩)))) W' from fun W' he => hK _ _ ⟨upd V 1 (.pointer (some ⟨w3.heap.size, r, none⟩)), rfl, HV.up 1 _ (fun x hx => Option.some.inj hx), SoT.ext s0 he⟩)
          have HU := Lib.hid (show (upd V 1 (.pointer (some ⟨w3.heap.size, r, none⟩))) 0 = .int .i64 (r : Nat) from e0)
          clear hK hC hW hL HV s0
          rw [HFR.out]
          rw [e0]
          clear e0
          gi_wp2_with fail
          show K _ _
          have := H.out _ (Ext.refl _)
          rw [HFR.out] at this
          obtain u0 := HU.out
          rw [u0] at this
          exact this
        · rintro L A W K hL hC hW ⟨V, rfl, HV, s0⟩ hK
          have e1 : V 1 = .pointer (some ⟨w3.heap.size, r, none⟩) := HV 1 _ rfl (hW 1 rfl)
          have hB := s0
          have H := Lib.hid (show ∀ W', Ext W W' → K (fr (upd V 2 (.int .u64 (yy : Nat)))) W' from fun W' he => hK _ _ ⟨upd V 2 (.int .u64 (yy : Nat)), rfl, HV.up 2 _ (fun x hx => Option.some.inj hx), SoT.ext s0 he⟩)
          have HU := Lib.hid (show (upd V 2 (.int .u64 (yy : Nat))) 1 = .pointer (some ⟨w3.heap.size, r, none⟩) from e1)
          clear hK hC hW hL HV s0
          rw [HFR.out]
          rw [e1]
          clear e1
          have hcl := HCL.out _ hB
          clear hB
          gi_wp2_with fail
          show K _ _
          have := H.out _ (Ext.refl _)
          rw [HFR.out] at this
          obtain u1 := HU.out
          rw [u1] at this
          exact this
        · rintro L A W K hL hC hW ⟨V, rfl, HV, s0⟩ hK
          have H := Lib.hid (show ∀ W', Ext W W' → K (fr (upd V 3 (.int .i64 (r : Nat)))) W' from fun W' he => hK _ _ ⟨upd V 3 (.int .i64 (r : Nat)), rfl, HV.up 3 _ (fun x hx => Option.some.inj hx), SoT.ext s0 he⟩)
          clear hK hC hW hL HV s0
          rw [HFR.out]
          gi_wp2_with fail
          show K _ _
          have := H.out _ (Ext.refl _)
          rw [HFR.out] at this
          exact this
        · rintro L A W K hL hC hW ⟨V, rfl, HV, s0⟩ hK
          have e3 : V 3 = .int .i64 (r : Nat) := HV 3 _ rfl (hW 3 rfl)
          have H := Lib.hid (show ∀ W', Ext W W' → K (fr (upd V 4 (.int .i64 (q8 : Nat)))) W' from fun W' he => hK _ _ ⟨upd V 4 (.int .i64 (q8 : Nat)), rfl, HV.up 4 _ (fun x hx => Option.some.inj hx), SoT.ext s0 he⟩)
          have HU := Lib.hid (show (upd V 4 (.int .i64 (q8 : Nat))) 3 = .int .i64 (r : Nat) from e3)
          clear hK hC hW hL HV s0
          rw [HFR.out]
          rw [e3]
          clear e3
          gi_wp2_with fail
          show K _ _
          have := H.out _ (Ext.refl _)
          rw [HFR.out] at this
          obtain u3 := HU.out
          rw [u3] at this
          exact this
        · rintro L A W K hL hC hW ⟨V, rfl, HV, s0⟩ hK
          have e4 : V 4 = .int .i64 (q8 : Nat) := HV 4 _ rfl (hW 4 rfl)
          have hB := s0
          have H := Lib.hid (show ∀ W', Ext W W' → K (fr (upd V 5 (.slice (some ⟨g11, q8, none⟩) (32 - q8) (32 - q8)))) W' from fun W' he => hK _ _ ⟨upd V 5 (.slice (some ⟨g11, q8, none⟩) (32 - q8) (32 - q8)), rfl, HV.up 5 _ (fun x hx => Option.some.inj hx), SoT.ext s0 he⟩)
          have HU := Lib.hid (show (upd V 5 (.slice (some ⟨g11, q8, none⟩) (32 - q8) (32 - q8))) 4 = .int .i64 (q8 : Nat) from e4)
          clear hK hC hW hL HV s0
          rw [HFR.out]
          rw [e4]
          clear e4
          clear hB
          have hsl := HSL.out W
          gi_wp2_with fail
          show K _ _
          have := H.out _ (Ext.refl _)
          rw [HFR.out] at this
          obtain u4 := HU.out
          rw [u4] at this
          exact this
        · rintro L A W K hL hC hW ⟨V, rfl, HV, s0⟩ hK
          have e5 : V 5 = .slice (some ⟨g11, q8, none⟩) (32 - q8) (32 - q8) := HV 5 _ rfl (hW 5 rfl)
          have hB := s0
          have H := Lib.hid (show ∀ W', Ext W W' → K (fr (upd V 6 (.int .u64 (yy : Nat)))) W' from fun W' he => hK _ _ ⟨upd V 6 (.int .u64 (yy : Nat)), rfl, HV.up 6 _ (fun x hx => Option.some.inj hx), SoT.ext s0 he⟩)
          have HU := Lib.hid (show (upd V 6 (.int .u64 (yy : Nat))) 5 = .slice (some ⟨g11, q8, none⟩) (32 - q8) (32 - q8) from e5)
          clear hK hC hW hL HV s0
          rw [HFR.out]
          rw [e5]
          clear e5
          gi_wp2_with fail
          refine ⟨trivial, ?_⟩
          refine (callsIn_wide.2 (HLJ.out _ hB)).mono ?_
          rintro e wx ⟨rfl, rfl⟩
          have := H.out _ (Ext.refl _)
          clear H
          gi_wp2_with fail
          show K _ _
          rw [HFR.out] at this
          obtain u5 := HU.out
          rw [u5] at this
          exact this
        · rintro L A W K hL hC hW ⟨V, rfl, HV, s0⟩ hK
          have e2 : V 2 = .int .u64 (yy : Nat) := HV 2 _ rfl (hW 2 rfl)
          have e6 : V 6 = .int .u64 (yy : Nat) := HV 6 _ rfl (hW 6 rfl)
          have H := Lib.hid (show ∀ W', Ext W W' → K (fr (upd V 7 (.bool false))) W' from fun W' he => hK _ _ ⟨upd V 7 (.bool false), rfl, HV.up 7 _ (fun x hx => Option.some.inj hx), SoT.ext s0 he⟩)
          have HU := Lib.hid (show (upd V 7 (.bool false)) 2 = .int .u64 (yy : Nat) ∧ (upd V 7 (.bool false)) 6 = .int .u64 (yy : Nat) from ⟨e2, e6⟩)
          clear hK hC hW hL HV s0
          rw [HFR.out]
          rw [e2, e6]
          clear e2 e6
          gi_wp2_with fail
          show K _ _
          have := H.out _ (Ext.refl _)
          rw [HFR.out] at this
          obtain ⟨u2, u6⟩ := HU.out
          rw [u2, u6] at this
          exact this
        · rintro L A W hL ⟨V, rfl, HV, s0⟩
          have e0 : V 0 = .int .i64 (r : Nat) := HV 0 _ rfl (hL 0 (by simp))
          have e1 : V 1 = .pointer (some ⟨w3.heap.size, r, none⟩) := HV 1 _ rfl (hL 1 (by simp))
          have e2 : V 2 = .int .u64 (yy : Nat) := HV 2 _ rfl (hL 2 (by simp))
          have e3 : V 3 = .int .i64 (r : Nat) := HV 3 _ rfl (hL 3 (by simp))
          have e4 : V 4 = .int .i64 (q8 : Nat) := HV 4 _ rfl (hL 4 (by simp))
          have e5 : V 5 = .slice (some ⟨g11, q8, none⟩) (32 - q8) (32 - q8) := HV 5 _ rfl (hL 5 (by simp))
          have e6 : V 6 = .int .u64 (yy : Nat) := HV 6 _ rfl (hL 6 (by simp))
          have e7 : V 7 = .bool false := HV 7 _ rfl (hL 7 (by simp))
          have hA := s0
          rw [HFR.out]
          rw [e0, e1, e2, e3, e4, e5, e6, e7]
          clear hL HV HFR e0 e1 e2 e3 e4 e5 e6 e7 s0
          have HA := Lib.hid hA
          clear hA
          gi_wp2_with fail
          exact ⟨⟨r + 1, by omega, by go_num, HA⟩, by simp [intOf]; omega⟩
      · obtain rfl : r = 4 := by omega
        have HGG := Lib.hid (Cs.ext HG3.out HT9.out.1.2.1)
        have hcl := Cs.cell HGG.out 0 _ rfl
        have hfz := Cs.frozen HGG.out 0
        have HE9 := Lib.hid (HE3.out.trans HT9.out.1.2.1)
        have hDd := HT9.out.1.2.2.1
        have hDn : D ≠ w.heap.size := by have := HE3.out.size; omega
        clear HT9
        gi_wp2_with fail
        refine ⟨by simp, .inl ⟨_, _, rfl, run_takeDeferred ((grown_set _ _ _ _).block D (Array.getElem?_eq_some_iff.1 hDd).1 (fun e => by injection e with e; exact hDn e) |>.trans hDd), ?_⟩⟩
        exact ⟨_, results_flag Tryd.results6 _ _ w.heap.size true rfl (Cs.kept (Cs.set HGG.out 0 (.bool true)) (grownBy_putObj' _ D (.deferred none)) (some_ne (by omega))), rfl, (HE9.out.grown (grown_set _ _ _ _) (Nat.le_refl _)).grown (grownBy_putObj' _ D (.deferred none)) (by have := HE3.out.size; omega)⟩
  case stop =>
    rintro D c pre W _ _ h _
    exact h.elim
end Go.Proofs.YthjmjccggkejhaaDoor
