/- The law's run: what is done to a state. -/
import Derived.Test.YteidmoilldheeaaQSpt
import Derived.Test.YteidmoilldheeaaQOpn
namespace Go.Proofs.Yteidmoilldheeaa
open Go.ChangeShapes Go.WideShapes Go.ChangeAt Go.RowKit Go.Shelf

def kdI (o : Opn) : Int := (IntKind.u64.wrap o.kind).tmod 5
set_option maxRecDepth 100000 in
theorem kdI_cases (o : Opn) : kdI o = 0 ∨ kdI o = 1 ∨ kdI o = 2 ∨ kdI o = 3 ∨ kdI o = 4 := by
  have h : ∃ n : Nat, IntKind.u64.wrap o.kind = (n : Int) := ⟨(IntKind.u64.wrap o.kind).toNat, by
    rw [Int.toNat_of_nonneg]
    simp only [IntKind.wrap, IntKind.signed, IntKind.bits]
    first | exact Int.emod_nonneg _ (by decide) | (split <;> first | exact Int.emod_nonneg _ (by decide) | omega)⟩
  obtain ⟨n, hn⟩ := h
  unfold kdI
  rw [hn]
  have : ((n : Int)).tmod 5 = ((n % 5 : Nat) : Int) := by rw [Int.tmod_eq_emod_of_nonneg (by omega)]; omega
  rw [this]
  omega
/-- What comes of a state by what is done. -/
def runS (l : List Ac) (o : Opn) : List Ac × Int := if kdI o = 0 then putA l (oneA o.ac) else if kdI o = 1 then saveS l o.a o.pr else if kdI o = 2 then moveS l o.a o.b o.n else if kdI o = 3 then mintS l o.a o.n else burnS l o.a o.n
set_option maxRecDepth 100000 in
theorem own_keptLow {W W' : World} {lo g s n : Nat} {e : TypeId} {v : Value} {ds : List Value} (h : W.ownsRow lo e s v n ds) (hg : W.grownBy W' (some g)) (hl : g < lo) : W'.ownsRow lo e s v n ds :=
  h.kept hg (by
    cases hv : v.ownBlock with
    | none => exact .inl rfl
    | some k => exact .inr (fun e => by injection e with e; have := (h.lt k hv).1; omega))
set_option maxRecDepth 100000 in
theorem RwA.keptLow {lo g : Nat} {W W' : World} {vb va : Value} {l : List Ac} (h : RwA lo W vb va l) (hg : W.grownBy W' (some g)) (hl : g < lo) : RwA lo W' vb va l := by
  obtain ⟨t, h1, h2, h3, h4⟩ := h
  exact ⟨t, h1, own_keptLow h2 hg hl, h3, fun x hx => ⟨(h4 x hx).1, ⟨own_keptLow (h4 x hx).2.1.1 hg hl, own_keptLow (h4 x hx).2.1.2.1 hg hl, (h4 x hx).2.1.2.2⟩, (h4 x hx).2.2⟩⟩
/-- What lies there while the row of x is written. -/
structure RnJ (w : World) (lo1 lo2 g4 g6 g7 : Nat) (x : Ac) (ux vx vn : Value) (rl : List Ac) (k m : Nat) (W : World) : Prop where
  g6 : Cs W g6 37 (acc x ux vx)
  g7 : Cs W g7 24 #[vn]
  g4 : Cs W g4 24 #[.slice none 0 0]
  row : RwA lo2 W vn (.slice none 0 0) rl
  ext : Ext w W
  code : ∃ cs, W.ownsRow lo1 5 1 ux x.code.length cs ∧ ∀ j, k ≤ j → cs[j]? = (x.code.map bv)[j]?
  store : ∃ ds, W.ownsRow lo1 33 8 vx x.store.length ds ∧ ∀ j, m * 8 ≤ j → ds[j]? = (pkf x.store)[j]?
structure RnG (w : World) (lo1 lo2 g4 g6 g7 : Nat) (ux vx : Value) : Prop where
  w : w.heap.size ≤ lo1
  o4 : g4 < lo1
  u : ∀ b, ux.ownBlock = some b → b < g6 ∧ b < g7 ∧ b < lo2
  v : ∀ b, vx.ownBlock = some b → b < g6 ∧ b < g7 ∧ b < lo2
  uv : ∀ b c, ux.ownBlock = some b → vx.ownBlock = some c → b ≠ c
set_option maxRecDepth 100000 in
theorem RnJ.ext' {w : World} {lo1 lo2 g4 g6 g7 : Nat} {x : Ac} {ux vx vn : Value} {rl : List Ac} {k m : Nat} {W W' : World} (h : RnJ w lo1 lo2 g4 g6 g7 x ux vx vn rl k m W) (he : Ext W W') : RnJ w lo1 lo2 g4 g6 g7 x ux vx vn rl k m W' := by
  obtain ⟨cs, c1, c2⟩ := h.code
  obtain ⟨ds, d1, d2⟩ := h.store
  exact ⟨Cs.ext h.g6 he, Cs.ext h.g7 he, Cs.ext h.g4 he, h.row.ext he, h.ext.trans he, ⟨cs, own_ext c1 he, c2⟩, ⟨ds, own_ext d1 he, d2⟩⟩
set_option maxRecDepth 100000 in
theorem RnJ.putCode {w : World} {lo1 lo2 g4 g6 g7 b c n : Nat} {x : Ac} {vx vn : Value} {rl : List Ac} {k m : Nat} {W : World} (h : RnJ w lo1 lo2 g4 g6 g7 x (.slice (some ⟨b, 0, none⟩) n c) vx vn rl k m W) (hG : RnG w lo1 lo2 g4 g6 g7 (.slice (some ⟨b, 0, none⟩) n c) vx) (z : Value) :
    RnJ w lo1 lo2 g4 g6 g7 x (.slice (some ⟨b, 0, none⟩) n c) vx vn rl (k + 1) m (W.setCell ⟨b, k, none⟩ z) := by
  obtain ⟨cs, c1, c2⟩ := h.code
  obtain ⟨ds, d1, d2⟩ := h.store
  have hn : x.code.length = n := by
    rcases c1.2 with ⟨e, _⟩ | ⟨g, cap, cur, e, _⟩
    · injection e with e; cases e
    · injection e with _ e2 _; exact e2.symm
  rw [hn] at c1
  obtain ⟨s1, s2⟩ := c1.stored k z
  obtain ⟨hb6, hb7, hb2⟩ := hG.u b rfl
  have hlb := (c1.lt b rfl).1
  have h4 := hG.o4
  have hw := hG.w
  refine ⟨Cs.kept h.g6 s2 (some_ne (by omega)), Cs.kept h.g7 s2 (some_ne (by omega)), Cs.kept h.g4 s2 (some_ne (by omega)), h.row.keptLow s2 hb2, h.ext.grown s2 (by omega), ⟨_, by rw [hn]; exact s1, fun j hj => ?_⟩, ⟨ds, d1.kept s2 ?_, d2⟩⟩
  · rw [List.getElem?_set_ne (by omega)]
    exact c2 j (by omega)
  · cases hv : vx.ownBlock with
    | none => exact .inl rfl
    | some q => exact .inr (fun e => by injection e with e; exact hG.uv b q rfl hv e.symm)
set_option maxRecDepth 100000 in
theorem RnJ.putStore {w : World} {lo1 lo2 g4 g6 g7 b c n : Nat} {x : Ac} {ux vn : Value} {rl : List Ac} {k m : Nat} {W : World} (h : RnJ w lo1 lo2 g4 g6 g7 x ux (.slice (some ⟨b, 0, none⟩) n c) vn rl k m W) (hG : RnG w lo1 lo2 g4 g6 g7 ux (.slice (some ⟨b, 0, none⟩) n c)) (z : Value) :
    RnJ w lo1 lo2 g4 g6 g7 x ux (.slice (some ⟨b, 0, none⟩) n c) vn rl k (m + 1) (W.setCell ⟨b, m * 8 + 4, none⟩ z) := by
  obtain ⟨cs, c1, c2⟩ := h.code
  obtain ⟨ds, d1, d2⟩ := h.store
  have hn : x.store.length = n := by
    rcases d1.2 with ⟨e, _⟩ | ⟨g, cap, cur, e, _⟩
    · injection e with e; cases e
    · injection e with _ e2 _; exact e2.symm
  rw [hn] at d1
  obtain ⟨s1, s2⟩ := d1.stored (m * 8 + 4) z
  obtain ⟨hb6, hb7, hb2⟩ := hG.v b rfl
  have hlb := (d1.lt b rfl).1
  have h4 := hG.o4
  have hw := hG.w
  refine ⟨Cs.kept h.g6 s2 (some_ne (by omega)), Cs.kept h.g7 s2 (some_ne (by omega)), Cs.kept h.g4 s2 (some_ne (by omega)), h.row.keptLow s2 hb2, h.ext.grown s2 (by omega), ⟨cs, c1.kept s2 ?_, c2⟩, ⟨_, by rw [hn]; exact s1, fun j hj => ?_⟩⟩
  · cases hv : ux.ownBlock with
    | none => exact .inl rfl
    | some q => exact .inr (fun e => by injection e with e; exact hG.uv q b hv rfl e)
  · rw [List.getElem?_set_ne (by omega)]
    exact d2 j (by omega)
set_option maxRecDepth 100000 in
theorem own_addr {W : World} {lo s n c m : Nat} {e : TypeId} {A : Option Addr} {cs : List Value} (h : W.ownsRow lo e s (.slice A n c) m cs) (hn : 0 < m) : ∃ b, A = some ⟨b, 0, none⟩ := by
  rcases h.2 with ⟨_, h0⟩ | ⟨b, cap, cur, e, _⟩
  · omega
  · injection e with e
    exact ⟨b, e⟩
set_option maxRecDepth 100000 in
theorem pkf_get : ∀ (l : List (Nat × Nat)) (i j : Nat), i < l.length → j < 8 → (pkf l)[i * 8 + j]? = (pkc (l.getD i (0, 0))).toList[j]?
  | [], i, _, hi, _ => by simp at hi
  | p :: l, 0, j, _, hj => by
    have e : pkf (p :: l) = (pkc p).toList ++ pkf l := by simp [pkf]
    rw [e, List.getElem?_append_left (by simp [pkc]; omega)]
    simp
  | p :: l, i + 1, j, hi, hj => by
    have e : pkf (p :: l) = (pkc p).toList ++ pkf l := by simp [pkf]
    have hl : (pkc p).toList.length = 8 := rfl
    rw [e, List.getElem?_append_right (by omega), hl, show (i + 1) * 8 + j - 8 = i * 8 + j by omega, pkf_get l i j (by simpa using hi) hj]
    simp
set_option maxRecDepth 100000 in
set_option maxHeartbeats 8000000 in
theorem run_any (sv : Value) (l : List Ac) (o : Opn) (uo vo : Value) (w : World) (hs : Acs w sv l) (hl : l.length ≤ 1000) (hsz : ∀ q ∈ l, q.code.length ≤ 1000000 ∧ q.store.length ≤ 1000000) (hok : o.ok) (hu : Bs w uo o.ac.code) (hv : Pks w vo o.ac.store) (hSV : rightL l = true → SavedOK (accF l o.a).1.store o.pr) :
    Calls Try.prog 11 #[.agg (opc o uo vo), .agg #[sv]] w (RetS w (runS l o)) := by
  have HS := Lib.hid hs
  have HUV := Lib.hid (And.intro hu hv)
  have HSZ := Lib.hid hsz
  have HSZ2 := Lib.hid (show ∀ q ∈ l, q.code.length ≤ 1000000000 ∧ q.store.length ≤ 1000000000 from fun q hq => by have := hsz q hq; omega)
  have HA := Lib.hid hok.2.1
  have HB := Lib.hid hok.2.2.1
  have HN := Lib.hid hok.2.2.2.1
  have HAC := Lib.hid hok.2.2.2.2.2.2
  have HSV := Lib.hid hSV
  obtain ⟨A0, c0, rfl, h1, h2⟩ := hs.len
  have hk1 := hok.1.1
  have hk2 := hok.1.2
  obtain ⟨w0, hw0⟩ : ∃ w0, (((w.alloc (.cells (opc o uo vo) 39)).alloc (.cells #[.slice A0 l.length c0] 24)).alloc (.cells #[.slice none 0 0] 24)) = w0 := ⟨_, rfl⟩
  have HB0 : Hid (Cs w0 w.heap.size 39 (opc o uo vo) ∧ Cs w0 (w.heap.size + 1) 24 #[.slice A0 l.length c0] ∧ Cs w0 (w.heap.size + 1 + 1) 24 #[.slice none 0 0] ∧ Ext w w0 ∧ w.heap.size + 1 + 1 < w0.heap.size) := by
    rw [← hw0]
    exact Lib.hid ⟨Cs.alloc (Cs.alloc (Cs.new _ _ _ _ rfl) _) _, Cs.alloc (Cs.new _ _ _ _ (by simp)) _, Cs.new _ _ _ _ (by simp), (((Ext.refl w).alloc _).alloc _).alloc _, by simp⟩
  have HW0 := Lib.hid hw0
  have q0 : w0.cell? ⟨w.heap.size, 0, none⟩ = some (.int .i64 o.kind) := HB0.out.1.cell 0 _ rfl
  have q1 : w0.cell? ⟨w.heap.size, 1, none⟩ = some (.int .u64 (o.a : Nat)) := HB0.out.1.cell 1 _ rfl
  have q2 : w0.cell? ⟨w.heap.size, 2, none⟩ = some (.int .u64 (o.b : Nat)) := HB0.out.1.cell 2 _ rfl
  have q3 : w0.cell? ⟨w.heap.size + 1, 0, none⟩ = some (.slice A0 l.length c0) := HB0.out.2.1.cell 0 _ rfl
  have HWN := Lib.hid (op_word HB0.out.1)
  have HPR := Lib.hid (op_range HB0.out.1)
  have HK := Lib.hid (kdI_cases o)
  clear hs hsz hw0 hok hu hv hSV
  go_enter Try.func11, Try.ntmps11
  go_upto_region 1 with fail
  rw [HW0.out]
  clear HW0
  go_upto_region 2 with fail
  rw [show (IntKind.u64.wrap o.kind).tmod 5 = kdI o from rfl]
  clear q0 hk1 hk2
  rcases HK.out with hk | hk | hk | hk | hk
  · have HF := Lib.hid (show runS l o = putA l (oneA o.ac) by unfold runS; rw [hk]; rfl)
    rw [hk]
    clear hk q1 q2 HWN HSV HN HA HB HSZ
    go_wp2_with ((with_reducible refine wpList_load_ac ?_ (.tmp 17) ?_ w.heap.size 15 o.ac uo vo ?_ ?_ ?_); (exact rfl); (exact rfl); (exact rfl); (exact HPR.out.2))
    refine (one_any o.ac uo vo _ (HUV.out.1.ext HB0.out.2.2.2.1) (HUV.out.2.ext HB0.out.2.2.2.1)).mono ?_
    rintro e w1 ⟨ux, vx, rfl, ho, he⟩
    have HOX := Lib.hid (show (oneA o.ac).ok from HAC.out)
    have HXZ := Lib.hid (show (oneA o.ac).code.length ≤ 1000000000 ∧ (oneA o.ac).store.length ≤ 1000000000 by unfold oneA; simp; omega)
    obtain ⟨x, hx⟩ : ∃ x, oneA o.ac = x := ⟨_, rfl⟩
    rw [hx] at ho HOX HXZ HF ⊢
    have HE1 := Lib.hid (HB0.out.2.2.2.1.trans he)
    have HS1 := Lib.hid (Cs.ext HB0.out.2.1 he)
    have HG1 := Lib.hid (Cs.ext HB0.out.2.2.1 he)
    have HO := Lib.hid ho
    have HLO := Lib.hid (fun b (h : ux.ownBlock = some b ∨ vx.ownBlock = some b) => ho.lt b h)
    obtain ⟨_, Au, cu, rfl, a1, a2, _⟩ := Rs.of_own ho.1
    obtain ⟨_, Av, cv, rfl, a3, a4, _⟩ := Rs.of_own ho.2.1
    unfold maxLen at a2 a4
    clear hx ho he HPR HUV HAC q3
    go_upto_region 4 with ((with_reducible refine wpList_store_ac ?_ ?_ (.tmp 6) (.tmp 19) ?_ w1.heap.size az0 x (.slice Au x.code.length cu) (.slice Av x.store.length cv) ?_ ?_ ?_ ?_ ?_ ?_ ?_); (exact rfl); (exact rfl); (exact rfl); (exact rfl); (exact rfl); (exact rfl); (exact rfl); (exact Cs.new _ _ _ _ rfl); (exact rfl); intro w2 k2 h2'; have K2 := Lib.hid k2; have HX2 := Lib.hid (((Ext.refl w1).alloc _).grown h2' (Nat.le_refl _)); have HGR := Lib.hid h2'; clear k2 h2')
    have HO2 := Lib.hid ((HO.out.ext ((Ext.refl w1).alloc _)).kept HGR.out (fun g e => by injection e with e; subst e; exact ⟨fun e => by have := (HLO.out _ (.inl e)).2; omega, fun e => by have := (HLO.out _ (.inr e)).2; omega⟩))
    have HL2 := Lib.hid (show w1.heap.size < w2.heap.size from Cs.lt K2.out)
    have HE2 := Lib.hid (HE1.out.trans HX2.out)
    have r3 : w2.cell? ⟨w.heap.size + 1, 0, none⟩ = some (.slice A0 l.length c0) := (Cs.ext HS1.out HX2.out).cell 0 _ rfl
    have HG2 := Lib.hid (Cs.ext HG1.out HX2.out)
    have HKR := Lib.hid K2.out.range
    clear HO HX2 HGR HS1 HG1
    go_wp2_with ((with_reducible refine wpList_load_ac ?_ (.tmp 6) ?_ w1.heap.size 0 x (.slice Au x.code.length cu) (.slice Av x.store.length cv) ?_ ?_ ?_); (exact rfl); (exact rfl); (exact rfl); (exact HKR.out))
    refine (putAcc_any _ l x (.slice Au x.code.length cu) (.slice Av x.store.length cv) _ (HS.out.ext HE2.out) hl HSZ2.out HOX.out HO2.out.1.bs HO2.out.2.pks HXZ.out).mono ?_
    rintro e w4 ⟨vn, rfl, hr, he⟩
    rw [← HF.out] at hr ⊢
    generalize runS l o = r at *
    have HR := Lib.hid hr
    obtain ⟨An, cn, rfl⟩ := hr.shape
    have HX4 := Lib.hid he
    clear hr he r3 HKR
    go_upto_region 5 with fail
    obtain ⟨w5, hw5⟩ : ∃ w5, w4.alloc (.cells #[.slice An r.1.length cn] 24) = w5 := ⟨_, rfl⟩
    have HX5 : Hid (Ext w4 w5) := Lib.hid (by rw [← hw5]; exact (Ext.refl _).alloc _)
    have HG7 : Hid (Cs w5 w4.heap.size 24 #[.slice An r.1.length cn]) := Lib.hid (by rw [← hw5]; exact Cs.new _ _ _ _ rfl)
    rw [hw5]
    have HJ0 : Hid (RnJ w w0.heap.size w2.heap.size (w.heap.size + 1 + 1) w1.heap.size w4.heap.size x (.slice Au x.code.length cu) (.slice Av x.store.length cv) (.slice An r.1.length cn) r.1 0 0 w5) := Lib.hid
      ⟨Cs.ext K2.out (HX4.out.trans HX5.out), HG7.out, Cs.ext HG2.out (HX4.out.trans HX5.out), HR.out.ext HX5.out, HE2.out.trans (HX4.out.trans HX5.out), ⟨_, own_ext HO2.out.1 (HX4.out.trans HX5.out), fun _ _ => rfl⟩, ⟨_, own_ext HO2.out.2.1 (HX4.out.trans HX5.out), fun _ _ => rfl⟩⟩
    have HGG : Hid (RnG w w0.heap.size w2.heap.size (w.heap.size + 1 + 1) w1.heap.size w4.heap.size (.slice Au x.code.length cu) (.slice Av x.store.length cv)) := Lib.hid
      ⟨HB0.out.2.2.2.1.size, HB0.out.2.2.2.2, fun b hb => by have := (HLO.out b (.inl hb)).2; have := HL2.out; have := HX4.out.size; omega, fun b hb => by have := (HLO.out b (.inr hb)).2; have := HL2.out; have := HX4.out.size; omega, fun b c hb hc e => by
        rcases own_diff (by decide) HO2.out.1 HO2.out.2.1 with h | h
        · rw [h] at hb; cases hb
        · exact h (by rw [hb, hc, e])⟩
    have HLW := Lib.hid (show w.heap.size ≤ w2.heap.size from HE2.out.size)
    clear hw5 HX5 HG7 K2 HX4 HG2 HR HE2 HO2 HLO HL2 HE1
    generalize w1.heap.size = g6 at *
    generalize w4.heap.size = g7 at *
    generalize w2.heap.size = lo2 at *
    generalize w0.heap.size = lo1 at *
    have c6 : w5.cell? ⟨g6, 6, none⟩ = some (.slice Au x.code.length cu) := HJ0.out.g6.cell 6 _ rfl
    go_wp2_with fail
    clear c6
    go_loopw [29] (fun iv wr => ∃ k : Nat, k ≤ x.code.length ∧ iv = .int .i64 k ∧ Hid (RnJ w lo1 lo2 (w.heap.size + 1 + 1) g6 g7 x (.slice Au x.code.length cu) (.slice Av x.store.length cv) (.slice An r.1.length cn) r.1 k 0 wr)) (fun iv _ => x.code.length - (intOf iv).toNat)
    case atStart => exact ⟨0, by omega, rfl, HJ0⟩
    case round =>
      clear HJ0
      obtain ⟨k, hk, rfl, HJ⟩ := hrel
      by_cases hlt : k < x.code.length
      · have hd : decide (k < x.code.length) = true := decide_eq_true hlt
        obtain ⟨cs, d1, d2⟩ := HJ.out.code
        obtain ⟨b, rfl⟩ := own_addr d1 (by omega)
        have hbk := (d1.cellAt k (by omega)).trans (d2 k (Nat.le_refl _))
        have hfk : wr.frozen? ⟨b, k, none⟩ = false := d1.frozenAt k
        rw [List.getElem?_map, List.getElem?_eq_getElem hlt] at hbk
        replace hbk : wr.cell? ⟨b, k, none⟩ = some (.int .u8 ((x.code[k]).toNat : Int)) := hbk
        generalize (x.code[k]).toNat = y at *
        have c6 : wr.cell? ⟨g6, 6, none⟩ = some (.slice (some ⟨b, 0, none⟩) x.code.length cu) := HJ.out.g6.cell 6 _ rfl
        clear d1 d2
        go_wp2_with fail
        exact ⟨⟨k + 1, by omega, by go_num, Lib.hid (HJ.out.putCode HGG.out _)⟩, by simp [intOf]; omega⟩
      · obtain rfl : k = x.code.length := by omega
        have HJ0 := Lib.hid HJ.out
        obtain ⟨w6, hw6⟩ : ∃ w6, wr = w6 := ⟨_, rfl⟩
        rw [hw6] at HJ0 ⊢
        clear hw6 HJ
        have c7 : w6.cell? ⟨g6, 7, none⟩ = some (.slice Av x.store.length cv) := HJ0.out.g6.cell 7 _ rfl
        go_wp2_with fail
        clear c7
        go_loopw [43] (fun iv wr => ∃ m : Nat, m ≤ x.store.length ∧ iv = .int .i64 m ∧ Hid (RnJ w lo1 lo2 (w.heap.size + 1 + 1) g6 g7 x (.slice Au x.code.length cu) (.slice Av x.store.length cv) (.slice An r.1.length cn) r.1 x.code.length m wr)) (fun iv _ => x.store.length - (intOf iv).toNat)
        case atStart => exact ⟨0, by omega, rfl, HJ0⟩
        case round =>
          clear HJ0
          obtain ⟨m, hm, rfl, HJ⟩ := hrel
          by_cases hlt : m < x.store.length
          · have hd : decide (m < x.store.length) = true := decide_eq_true hlt
            obtain ⟨ds, d1, d2⟩ := HJ.out.store
            obtain ⟨b, rfl⟩ := own_addr d1 (by omega)
            have hbk := (d1.cellAt (m * 8 + 4) (by omega)).trans (d2 (m * 8 + 4) (by omega))
            have hfk : wr.frozen? ⟨b, m * 8 + 4, none⟩ = false := d1.frozenAt _
            rw [pkf_get x.store m 4 hlt (by omega)] at hbk
            replace hbk : wr.cell? ⟨b, m * 8 + 4, none⟩ = some (.int .u64 (lb (x.store.getD m (0, 0)).2 0 : Nat)) := hbk
            generalize lb (x.store.getD m (0, 0)).2 0 = y at *
            have c7 : wr.cell? ⟨g6, 7, none⟩ = some (.slice (some ⟨b, 0, none⟩) x.store.length cv) := HJ.out.g6.cell 7 _ rfl
            clear d1 d2
            go_upto_region 13 with fail
            go_region
            all_goals
              go_wp2_with fail
              exact ⟨⟨m + 1, by omega, by go_num, Lib.hid ((HJ.out.putStore HGG.out _).ext' (Ext.refl _).drew)⟩, by simp [intOf]; omega⟩
          · obtain rfl : m = x.store.length := by omega
            have c7 : wr.cell? ⟨g7, 0, none⟩ = some (.slice An r.1.length cn) := HJ.out.g7.cell 0 _ rfl
            have r2 : wr.cell? ⟨w.heap.size + 1 + 1, 0, none⟩ = some (.slice none 0 0) := HJ.out.g4.cell 0 _ rfl
            have p2 : wr.frozen? ⟨w.heap.size + 1 + 1, 0, none⟩ = false := HJ.out.g4.frozen 0
            go_wp2_with fail
            refine bodyPost_ret (results_st_err Try.results11 _ _ (w.heap.size + 1 + 1) (.slice An r.1.length cn) rfl (by simpa using Cs.set HJ.out.g4 0 (.slice An r.1.length cn))) rfl ?_
            exact ⟨_, rfl, (HJ.out.row.keptS (grown_set _ _ _ _) HJ.out.g4).low HLW.out, HJ.out.ext.grown (grown_set _ _ _ _) (by omega)⟩
  · have HF := Lib.hid (show runS l o = saveS l o.a o.pr by unfold runS; rw [hk]; rfl)
    rw [hk]
    clear hk
    go_wp2_with (first
      | ((with_reducible refine wpList_load_wordIn ?_ (.tmp 999) ?_ w.heap.size 3 (o.n) ?_ ?_ ?_); (exact rfl); (exact rfl); (exact rfl); (exact HWN.out))
      | ((with_reducible refine wpList_load_pair ?_ (.tmp 65) ?_ w.heap.size 7 o.pr ?_ ?_ ?_); (exact rfl); (exact rfl); (exact rfl); (exact HPR.out.1)))
    refine (stateSave_any _ l o.a o.pr _ (HS.out.ext HB0.out.2.2.2.1) HA.out hl HSZ.out HSV.out).mono ?_
    rintro e w1 ⟨vn, rfl, hr, he⟩
    rw [← HF.out] at hr ⊢
    generalize runS l o = r at *
    have HR := Lib.hid hr
    obtain ⟨An, cn, rfl⟩ := hr.shape
    have HG4 := Lib.hid (Cs.ext HB0.out.2.2.1 he)
    have HE1 := Lib.hid (HB0.out.2.2.2.1.trans he)
    have r2 : w1.cell? ⟨w.heap.size + 1 + 1, 0, none⟩ = some (.slice none 0 0) := HG4.out.cell 0 _ rfl
    have p2 : w1.frozen? ⟨w.heap.size + 1 + 1, 0, none⟩ = false := HG4.out.frozen 0
    clear hr he
    go_wp2_with fail
    refine bodyPost_ret (results_st_err Try.results11 _ _ (w.heap.size + 1 + 1) (.slice An r.1.length cn) rfl (by simpa using Cs.set HG4.out 0 (.slice An r.1.length cn))) rfl ?_
    exact ⟨_, rfl, (HR.out.keptS (grown_set _ _ _ _) HG4.out).low HB0.out.2.2.2.1.size, HE1.out.grown (grown_set _ _ _ _) (by omega)⟩
  · have HF := Lib.hid (show runS l o = moveS l o.a o.b o.n by unfold runS; rw [hk]; rfl)
    rw [hk]
    clear hk
    go_wp2_with (first
      | ((with_reducible refine wpList_load_wordIn ?_ (.tmp 77) ?_ w.heap.size 3 (o.n) ?_ ?_ ?_); (exact rfl); (exact rfl); (exact rfl); (exact HWN.out))
      | ((with_reducible refine wpList_load_pair ?_ (.tmp 65) ?_ w.heap.size 7 o.pr ?_ ?_ ?_); (exact rfl); (exact rfl); (exact rfl); (exact HPR.out.1)))
    refine (stateMove_any _ l o.a o.b o.n _ (HS.out.ext HB0.out.2.2.2.1) hl HSZ2.out HN.out HA.out HB.out).mono ?_
    rintro e w1 ⟨vn, rfl, hr, he⟩
    rw [← HF.out] at hr ⊢
    generalize runS l o = r at *
    have HR := Lib.hid hr
    obtain ⟨An, cn, rfl⟩ := hr.shape
    have HG4 := Lib.hid (Cs.ext HB0.out.2.2.1 he)
    have HE1 := Lib.hid (HB0.out.2.2.2.1.trans he)
    have r2 : w1.cell? ⟨w.heap.size + 1 + 1, 0, none⟩ = some (.slice none 0 0) := HG4.out.cell 0 _ rfl
    have p2 : w1.frozen? ⟨w.heap.size + 1 + 1, 0, none⟩ = false := HG4.out.frozen 0
    clear hr he
    go_wp2_with fail
    refine bodyPost_ret (results_st_err Try.results11 _ _ (w.heap.size + 1 + 1) (.slice An r.1.length cn) rfl (by simpa using Cs.set HG4.out 0 (.slice An r.1.length cn))) rfl ?_
    exact ⟨_, rfl, (HR.out.keptS (grown_set _ _ _ _) HG4.out).low HB0.out.2.2.2.1.size, HE1.out.grown (grown_set _ _ _ _) (by omega)⟩
  · have HF := Lib.hid (show runS l o = mintS l o.a o.n by unfold runS; rw [hk]; rfl)
    rw [hk]
    clear hk
    go_wp2_with (first
      | ((with_reducible refine wpList_load_wordIn ?_ (.tmp 87) ?_ w.heap.size 3 (o.n) ?_ ?_ ?_); (exact rfl); (exact rfl); (exact rfl); (exact HWN.out))
      | ((with_reducible refine wpList_load_pair ?_ (.tmp 65) ?_ w.heap.size 7 o.pr ?_ ?_ ?_); (exact rfl); (exact rfl); (exact rfl); (exact HPR.out.1)))
    refine (stateMint_any _ l o.a o.n _ (HS.out.ext HB0.out.2.2.2.1) hl HSZ2.out HN.out HA.out).mono ?_
    rintro e w1 ⟨vn, rfl, hr, he⟩
    rw [← HF.out] at hr ⊢
    generalize runS l o = r at *
    have HR := Lib.hid hr
    obtain ⟨An, cn, rfl⟩ := hr.shape
    have HG4 := Lib.hid (Cs.ext HB0.out.2.2.1 he)
    have HE1 := Lib.hid (HB0.out.2.2.2.1.trans he)
    have r2 : w1.cell? ⟨w.heap.size + 1 + 1, 0, none⟩ = some (.slice none 0 0) := HG4.out.cell 0 _ rfl
    have p2 : w1.frozen? ⟨w.heap.size + 1 + 1, 0, none⟩ = false := HG4.out.frozen 0
    clear hr he
    go_wp2_with fail
    refine bodyPost_ret (results_st_err Try.results11 _ _ (w.heap.size + 1 + 1) (.slice An r.1.length cn) rfl (by simpa using Cs.set HG4.out 0 (.slice An r.1.length cn))) rfl ?_
    exact ⟨_, rfl, (HR.out.keptS (grown_set _ _ _ _) HG4.out).low HB0.out.2.2.2.1.size, HE1.out.grown (grown_set _ _ _ _) (by omega)⟩
  · have HF := Lib.hid (show runS l o = burnS l o.a o.n by unfold runS; rw [hk]; rfl)
    rw [hk]
    clear hk
    go_wp2_with (first
      | ((with_reducible refine wpList_load_wordIn ?_ (.tmp 95) ?_ w.heap.size 3 (o.n) ?_ ?_ ?_); (exact rfl); (exact rfl); (exact rfl); (exact HWN.out))
      | ((with_reducible refine wpList_load_pair ?_ (.tmp 65) ?_ w.heap.size 7 o.pr ?_ ?_ ?_); (exact rfl); (exact rfl); (exact rfl); (exact HPR.out.1)))
    refine (stateBurn_any _ l o.a o.n _ (HS.out.ext HB0.out.2.2.2.1) hl HSZ2.out HN.out HA.out).mono ?_
    rintro e w1 ⟨vn, rfl, hr, he⟩
    rw [← HF.out] at hr ⊢
    generalize runS l o = r at *
    have HR := Lib.hid hr
    obtain ⟨An, cn, rfl⟩ := hr.shape
    have HG4 := Lib.hid (Cs.ext HB0.out.2.2.1 he)
    have HE1 := Lib.hid (HB0.out.2.2.2.1.trans he)
    have r2 : w1.cell? ⟨w.heap.size + 1 + 1, 0, none⟩ = some (.slice none 0 0) := HG4.out.cell 0 _ rfl
    have p2 : w1.frozen? ⟨w.heap.size + 1 + 1, 0, none⟩ = false := HG4.out.frozen 0
    clear hr he
    go_wp2_with fail
    refine bodyPost_ret (results_st_err Try.results11 _ _ (w.heap.size + 1 + 1) (.slice An r.1.length cn) rfl (by simpa using Cs.set HG4.out 0 (.slice An r.1.length cn))) rfl ?_
    exact ⟨_, rfl, (HR.out.keptS (grown_set _ _ _ _) HG4.out).low HB0.out.2.2.2.1.size, HE1.out.grown (grown_set _ _ _ _) (by omega)⟩
end Go.Proofs.Yteidmoilldheeaa
