/- Package pack: copy into the midst of a row of the call's own. -/
import Derived.Test.YtdlllihfibjabaaPkd
import Derived.Test.YtdlllihfibjabaaPkc
namespace Go.Proofs.Ytdlllihfibjabaa
open Go.RowKit Go.Shelf

theorem lay_mid (R : List UInt8) (q : Nat) (x : List UInt8) (h : q + x.length ≤ R.length) : lay R q x = R.take q ++ x ++ R.drop (q + x.length) := by
  have hl : (R.take q).length = q := by simp; omega
  apply ext_getD
  · rw [lay_length]
    simp
    omega
  · intro i hi
    rw [lay_length] at hi
    rw [lay_getD _ _ _ _ hi, getD_append_if, getD_append_if, getD_drop, List.length_append, hl]
    by_cases h1 : i < q
    · rw [if_neg (by omega), if_pos (by omega), if_pos h1, getD_take _ _ _ h1]
    · by_cases h2 : i < q + x.length
      · rw [if_pos (by omega), if_pos h2, if_neg h1]
      · rw [if_neg (by omega), if_neg h2]
        congr 1
        omega
theorem wpList_copy_at {P : Program} {w : World} {ops : Array Oper} {rest : List Oper} {o : Oper} {a : Act} {Q : Exit → Act → World → Prop} (hgd : o.guard = none) (d s : Operand) (dT sT : TypeId)
    (ho : o.op = .call { callee := .builtin .copy, args := #[d, s], argTypes := #[dT, sT] }) (e : TypeId) (hu : P.underlying dT = some (.slice e)) (hsz : (P.info? e).map (·.size) = some 1)
    (base gg n cap q m c2 : Nat) (R : List UInt8) (hd : a.eval d = .slice (some ⟨gg, q, none⟩) m c2) (hown : Own w base e (.slice (some ⟨gg, 0, none⟩) n cap) R) (sv : Value) (x : List UInt8) (hs : a.eval s = sv) (hx : Bs w sv x) (h0 : 0 < x.length) (hxm : x.length ≤ m) (hq : q + x.length ≤ R.length)
    (hK : ∀ w', Own w' base e (.slice (some ⟨gg, 0, none⟩) n cap) (lay R q x) → w.grownBy w' (some gg) → wpList P ops Q rest (a.put o.dst (goInt x.length)) w') :
    wpList P ops Q (o :: rest) a w := by
  obtain ⟨A, c, rfl, hh⟩ := id hx
  have hmn : Nat.min x.length m = x.length := Nat.min_eq_left hxm
  obtain ⟨ad, rfl, hc⟩ := hx.src x.length (Nat.le_refl _) (by omega)
  rw [List.take_length] at hc
  rcases hown.2 with ⟨h', _⟩ | ⟨g, cap', cur, h', hb, hg, hnc, hcm, hcs, htake⟩
  · cases h'
  · simp only [Value.slice.injEq, Option.some.injEq, Addr.mk.injEq, and_true] at h'
    obtain ⟨rfl, rfl, rfl⟩ := h'
    rw [Nat.mul_one] at hcs htake
    have hcur : cur.toList = R.map bv ++ cur.toList.drop R.length := by rw [← htake, List.take_append_drop]
    have hxb : (x.map bv).length = x.length := by simp
    refine wpList_copy_own hgd d s dT sT ho e hu hsz gg q m c2 ad x.length c hd hs cur e hg (x.map bv) (by rw [hmn, hxb]) hc (by rw [hxb]; omega) (bv_all _) ?_
    rw [hxb]
    refine hK _ ⟨by simp, .inr ⟨gg, cap, _, by rw [lay_length], hb, setRow_heap w gg cur _ e (0, 0) hg, by rw [lay_length]; exact hnc, hcm, ?_, ?_⟩⟩ ⟨rfl, rfl, rfl, by simp [World.setRow], fun k _ hk => setRow_other w gg k _ (fun e => hk (by simp [e]))⟩
    · simp only [List.size_toArray, List.length_append, List.length_take, List.length_drop, Array.length_toList, hxb]
      omega
    · have hA : (R.map bv).length = R.length := by simp
      have e1 : cur.toList.take q = (R.map bv).take q := by rw [hcur, List.take_append_of_le_length (by omega)]
      have e2 : cur.toList.drop (q + x.length) = (R.map bv).drop (q + x.length) ++ cur.toList.drop R.length := by
        conv => lhs; rw [hcur]
        rw [List.drop_append_of_le_length (by omega)]
      rw [Nat.mul_one, lay_length, lay_mid R q x hq]
      simp only [e1, e2]
      rw [← List.append_assoc, List.map_append, List.map_append, List.map_take, List.map_drop]
      have e3 : ((R.map bv).take q ++ x.map bv ++ (R.map bv).drop (q + x.length)).length = R.length := by
        simp
        omega
      rw [← List.append_assoc]
      generalize cur.toList.drop R.length = T at *
      rw [← e3]
      exact List.take_left
end Go.Proofs.Ytdlllihfibjabaa
