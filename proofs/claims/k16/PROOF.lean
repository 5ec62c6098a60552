import PyProof.Rows.All
import Wide.All
import OpenK.AllK
import Wide.FinOn
import HandS.ForMost
import HandS.IsInst
import HandS.EndBits
import HandS.Wide
import HandS.WideBits
import HandS.TupAny
import HandS.Codes
import HandS.Defaults
import HandS.ForExc
import HandS.TryMany
import HandS.ExcIs
import HandS.TryElse
import HandS.DictComp
import HandS.Walk
import HandS.More
import PySem.Challenge.RW_majordomo_k16_acceptor_keeps
set_option Elab.async false
set_option linter.all false
set_option maxRecDepth 100000
set_option maxHeartbeats 4000000

namespace My
open PySem PySem.Spec PyProof.Rows L2
/-! own words: tests, heaps, items -/
theorem ifd {p A B : Prop} [Decidable p] (h1 : p → A) (h2 : ¬ p → B) : if decide p = true then A else B := by
  by_cases h : p
  · rw [decide_eq_true h]; exact (if_pos rfl).mpr (h1 h)
  · rw [decide_eq_false h]; exact (if_neg Bool.false_ne_true).mpr (h2 h)
theorem ifn {p A B : Prop} [Decidable p] (h1 : ¬ p → A) (h2 : p → B) : if (!decide p) = true then A else B := by
  by_cases h : p
  · rw [decide_eq_true h]; exact (if_neg Bool.false_ne_true).mpr (h2 h)
  · rw [decide_eq_false h]; exact (if_pos rfl).mpr (h1 h)
theorem ift {p A B : Prop} [Decidable p] (h : p) (h1 : A) : if decide p = true then A else B := by
  rw [decide_eq_true h]; exact (if_pos rfl).mpr h1
theorem iff0 {p A B : Prop} [Decidable p] (h : ¬ p) (h1 : B) : if decide p = true then A else B := by
  rw [decide_eq_false h]; exact (if_neg Bool.false_ne_true).mpr h1
theorem ifnt {p A B : Prop} [Decidable p] (h : p) (h1 : B) : if (!decide p) = true then A else B := by
  rw [decide_eq_true h]; exact (if_neg Bool.false_ne_true).mpr h1
theorem ifbt {b : Bool} {A B : Prop} (h : b = true) (h1 : A) : if b = true then A else B := (if_pos h).mpr h1
theorem ifbf {b : Bool} {A B : Prop} (h : b = false) (h1 : B) : if b = true then A else B := by rw [h]; exact h1
theorem ifb2 {b : Bool} {A B : Prop} (h1 : b = true → A) (h2 : b = false → B) : if b = true then A else B := by
  cases b with
  | true => exact h1 rfl
  | false => exact h2 rfl
theorem same_upd {H : Hp} {p : Addr} {o : HO} (h : H p = none) : Same H (upd H p o) := fun b x e => by
  rw [upd_ne (ne_of_none e h)]
  exact e
theorem same_put {H H' : Hp} {p : Addr} {o : HO} (e : Same H H') (h : H p = none) : Same H (upd H' p o) := fun b x q => by
  rw [upd_ne (ne_of_none q h)]
  exact e b x q
theorem sqt_same {K : PySem.W.Frag} {H H' : Hp} {a : Addr} {xs : List V} (e : Same H H') (h : SqT K H a xs) : SqT K H' a xs := by
  rcases h with (h | ⟨o, h⟩) | h
  · exact .inl (.inl (e _ _ h))
  · exact .inl (.inr ⟨o, e _ _ h⟩)
  · exact .inr h
theorem sql {K : PySem.W.Frag} {H : Hp} {a : Addr} {xs : List V} (h : H a = some (.lst xs)) : SqL K H a xs := .inl (.inl h)
theorem sqt {K : PySem.W.Frag} {H : Hp} {a : Addr} {xs : List V} (h : H a = some (.tup xs)) : SqT K H a xs := .inl (.inl h)
theorem sz {n : Nat} (h : n ≤ 100000) : n ≤ sizeLine := Nat.le_trans h (by decide)
theorem szl {n : Nat} (h : n ≤ 100000) : n < sizeLine := Nat.lt_of_le_of_lt h (by decide)
theorem map_at {α : Type} {f : α → V} {xs : List α} {i : Nat} {y : V} (h : (xs.map f)[i]? = some y) : ∃ x, xs[i]? = some x ∧ y = f x := by
  rw [List.getElem?_map] at h
  cases e : xs[i]? with
  | none => rw [e] at h; cases h
  | some x => rw [e] at h; exact ⟨x, rfl, (Option.some.inj h).symm⟩
theorem at_map {α : Type} {f : α → V} {xs : List α} {i : Nat} {x : α} (h : xs[i]? = some x) : atI (xs.map f) (i : Int) = some (f x) := atI_nat (by rw [List.getElem?_map, h]; rfl)
theorem take_more {α : Type} {l : List α} {i : Nat} {x : α} (h : l[i]? = some x) : l.take (i + 1) = l.take i ++ [x] := by
  rw [List.take_add_one, h]; rfl
/-! deep data stands as long as what was tracked stands -/
mutual
theorem dp_same {K : PySem.W.Frag} {H H' : Hp} (e : Same H H') : ∀ (d : PyData) {v : V}, Dp K H v d → Dp K H' v d
  | _, _, .non => .non
  | _, _, .bl b => .bl b
  | _, _, .int i => .int i
  | _, _, .str x => .str x
  | .list ds, _, .lst h a => .lst (e.seq h) (dpa_same e ds a)
  | .tuple ds, _, .tup h a => .tup (sqt_same e h) (dpa_same e ds a)
theorem dpa_same {K : PySem.W.Frag} {H H' : Hp} (e : Same H H') : ∀ (ds : List PyData) {vs : List V}, DpAll K H vs ds → DpAll K H' vs ds
  | [], _, .nil => .nil
  | d :: ds, _, .cons h a => .cons (dp_same e d h) (dpa_same e ds a)
end
theorem dpa_len {K : PySem.W.Frag} {H : Hp} : ∀ {vs : List V} {ds : List PyData}, DpAll K H vs ds → vs.length = ds.length
  | _, _, .nil => rfl
  | _, _, .cons _ a => by rw [List.length_cons, List.length_cons, dpa_len a]
theorem dpa_at {K : PySem.W.Frag} {H : Hp} : ∀ {vs : List V} {ds : List PyData} {i : Nat} {v : V}, DpAll K H vs ds → vs[i]? = some v → ∃ d, ds[i]? = some d ∧ Dp K H v d
  | _, _, _, _, .nil, h => by simp at h
  | _, _, 0, _, .cons h _, e => ⟨_, rfl, by have := Option.some.inj e; subst this; exact h⟩
  | _, _, i + 1, _, .cons _ a, e => dpa_at (i := i) a (by simpa using e)
theorem dpa_app {K : PySem.W.Frag} {H : Hp} : ∀ {vs ws : List V} {ds es : List PyData}, DpAll K H vs ds → DpAll K H ws es → DpAll K H (vs ++ ws) (ds ++ es)
  | _, _, _, _, .nil, b => b
  | _, _, _, _, .cons h a, b => .cons h (dpa_app a b)
theorem eqv_self {d : PyData} (h : SeqAt.shaped d = true) : PyData.eqv d d = true := SeqAt.eqv_refl d (SeqAt.canLay_of_shaped h)
/-! data that may be compared -/
theorem layAll : ∀ {ds : List PyData}, (∀ d ∈ ds, d.canLay0 = true) → PyData.canLayAll0 ds = true
  | [], _ => rfl
  | d :: ds, h => by
    rw [PyData.canLayAll0, h d List.mem_cons_self, layAll fun e he => h e (List.mem_cons_of_mem _ he)]; rfl
theorem depAll {n : Nat} : ∀ {ds : List PyData}, (∀ d ∈ ds, d.depth ≤ n) → PyData.depthAll ds ≤ n
  | [], _ => Nat.zero_le _
  | d :: ds, h => by
    have h1 := h d List.mem_cons_self
    have h2 := depAll (ds := ds) fun e he => h e (List.mem_cons_of_mem _ he)
    simp only [PyData.depthAll]
    omega
/-- plain data of at most this depth -/
def Flat (n : Nat) (d : PyData) : Prop := d.canLay0 = true ∧ d.depth ≤ n
theorem flat_list {n : Nat} {ds : List PyData} (h : ∀ d ∈ ds, Flat n d) : Flat (n + 1) (.list ds) :=
  ⟨by rw [PyData.canLay0]; exact layAll fun d hd => (h d hd).1, by have := depAll (n := n) fun d hd => (h d hd).2; simp only [PyData.depth]; omega⟩
theorem flat_tup {n : Nat} {ds : List PyData} (h : ∀ d ∈ ds, Flat n d) : Flat (n + 1) (.tuple ds) :=
  ⟨by rw [PyData.canLay0]; exact layAll fun d hd => (h d hd).1, by have := depAll (n := n) fun d hd => (h d hd).2; simp only [PyData.depth]; omega⟩
theorem flat_int (n : Nat) (i : Int) : Flat n (.int i) := ⟨rfl, by simp [PyData.depth]⟩
theorem flat_str (n : Nat) (x : Str) (h : (PyData.str x).canLay0 = true := by decide +kernel) : Flat n (.str x) := ⟨h, by simp [PyData.depth]⟩
theorem flat_bl (n : Nat) (b : Bool) : Flat n (.bool b) := ⟨rfl, by simp [PyData.depth]⟩
theorem flat_non (n : Nat) : Flat n .none := ⟨rfl, by simp [PyData.depth]⟩
theorem Flat.mono {n m : Nat} {d : PyData} (h : Flat n d) (hm : n ≤ m) : Flat m d := ⟨h.1, Nat.le_trans h.2 hm⟩
theorem Flat.sh {n : Nat} {d : PyData} (h : Flat n d) (hn : n ≤ 64) : SeqAt.shaped d = true := by
  show (d.canLay0 && decide (d.depth ≤ 64)) = true
  rw [Bool.and_eq_true]
  exact ⟨h.1, decide_eq_true (Nat.le_trans h.2 hn)⟩
theorem tyx_t {K : PySem.W.Frag} {H : Hp} {a : Addr} {xs : List V} (h : SqT K H a xs) : TyX K H (.ref a) (.type "tuple") := by
  rcases h with (h | ⟨o, h⟩) | ⟨o, its, n, h, hc, _⟩
  · exact .base (.tup h)
  · exact .fTuple h
  · exact .kTuple h hc
theorem tyx_l {K : PySem.W.Frag} {H : Hp} {a : Addr} {xs : List V} (h : SqL K H a xs) : TyX K H (.ref a) (.type "list") := by
  rcases h with (h | ⟨o, h⟩) | ⟨o, its, n, h, hc, _⟩
  · exact .base (.lst h)
  · exact .base (.frz h)
  · exact .kList h hc
theorem same_both {G H : Hp} {t : Addr} {x : HO} (e : Same G H) : Same (upd G t x) (upd H t x) := fun b o h => by
  by_cases hb : b = t
  · subst hb; rw [upd_same] at h ⊢; exact h
  · rw [upd_ne hb] at h ⊢; exact e b o h
theorem set_self {α : Type} : ∀ {l : List α} {i : Nat} {x : α}, l[i]? = some x → l.set i x = l
  | [], i, x, h => by simp at h
  | a :: l, 0, x, h => by
    have e : a = x := Option.some.inj h
    subst e
    rfl
  | a :: l, i + 1, x, h => by
    show a :: l.set i x = a :: l
    rw [set_self (by simpa using h)]
theorem ixn {n j : Nat} {i : Int} (hi : i = (j : Int)) (hj : j < n) : ixN n i = some j := by
  unfold ixN
  rw [if_pos (by omega), if_pos (by omega)]
  congr 1
  omega
/-! shifts and masks in place -/
section
variable {X : Cx}
theorem ip_shr : PIp X .RShift (fun x y H Q => ∃ (i : Int) (k : Nat), x = .int i ∧ y = .int (k : Int) ∧ Q (.int (i / 2 ^ k)) H) := by
  intro pins s σ H x y v u Q I r1 r2 h
  obtain ⟨i, k, e1, e2, q⟩ := h
  subst e1; subst e2
  obtain ⟨t, rfl⟩ := r1
  obtain ⟨t', rfl⟩ := r2
  refine irshift_int (Int.natCast_nonneg k) ⟨.int _, H, I.tok _, ⟨_, rfl⟩, ?_⟩
  rw [Int.toNat_natCast, Int.fdiv_eq_ediv_of_nonneg _ (Int.le_of_lt (Int.pow_pos (by decide)))]
  exact q
theorem ip_or : PIp X .BitOr (fun x y H Q => ∃ (r a : Int) (k : Nat), x = .int r ∧ y = .int (a * 2 ^ k) ∧ (0 ≤ a ∧ 0 ≤ r ∧ r < 2 ^ k) ∧ Q (.int (r + a * 2 ^ k)) H) := by
  intro pins s σ H x y v u Q I r1 r2 h
  obtain ⟨r, a, k, e1, e2, ⟨h0, h1, h2⟩, q⟩ := h
  subst e1; subst e2
  obtain ⟨t, rfl⟩ := r1
  obtain ⟨t', rfl⟩ := r2
  refine ior_int ⟨.int _, H, I.tok _, ⟨_, rfl⟩, ?_⟩
  have e : Builtin.bitOr r (a * 2 ^ k) = r + a * 2 ^ k := by
    have hp : (0 : Int) ≤ a * 2 ^ k := Int.mul_nonneg h0 (Int.le_of_lt (Int.pow_pos (by decide)))
    rw [bitOr_nn h1 hp, Nat.or_comm, ← bitOr_nn hp h1, or_low h0 h1 h2, Int.add_comm]
  rw [e]
  exact q
end
theorem bits_small : ∀ n : Nat, n < 128 → Builtin.Int.intBits (n : Int) ≤ 8 := by decide +kernel
/-- isinstance(e, c) of the error that a suite holds, its class known by the reading -/
theorem call_isE1 {X : Cx} {a D : Addr} {oe : Obj} {cls : Value} {d : Option Addr} {pn : List (Addr × Obj)} (C : ExcC X.K D) (hz : Zc cls d oe) (hf : ∃ vs, oe.data = .fields vs) :
    CallR (X.suite a ((a, oe) :: pn)) (.builtin "isinstance") (fun xs H Q => cls = .ref D ∧ d = none ∧ rIsE X.K D a xs H Q) := fun pins s σ H xs us Q I r h => by
  obtain ⟨h1, h2, h⟩ := h
  subst h1
  subst h2
  exact call_isE C hz hf pins s σ H xs us Q I r h
/-! slices -/
theorem sIx_le {n d : Nat} {i : Nat} : HT.sIx n d (some (i : Int)) = min i n := HT.sIx_nat n d i
theorem cut0n (xs : List V) (j : Nat) : cutV xs none (some (j : Int)) = xs.take j := by
  unfold cutV
  rw [sIx_le, HT.sIx_none, List.drop_zero, Nat.sub_zero]
  exact (List.take_eq_take_min).symm
theorem cutnn (xs : List V) (i j : Nat) : cutV xs (some (i : Int)) (some (j : Int)) = (xs.drop i).take (j - i) := by
  unfold cutV
  rw [sIx_le, sIx_le]
  by_cases hi : i ≤ xs.length
  · rw [Nat.min_eq_left hi]
    by_cases hj : j ≤ xs.length
    · rw [Nat.min_eq_left hj]
    · rw [Nat.min_eq_right (by omega), List.take_of_length_le (by rw [List.length_drop]; omega), List.take_of_length_le (by rw [List.length_drop]; omega)]
  · have e : min i xs.length = xs.length := by omega
    rw [e, List.drop_of_length_le (Nat.le_refl _), List.drop_of_length_le (show xs.length ≤ i by omega), List.take_nil, List.take_nil]
theorem cut_ints (ns : List Int) {i j : Nat} {a b : Int} (ha : a = i) (hb : b = j) : cutV (ns.map V.int) (some a) (some b) = ((ns.drop i).take (j - i)).map V.int := by
  rw [ha, hb, cutnn, ← List.map_drop, ← List.map_take]
theorem rep_ints (ns : List Int) (k : Nat) : (List.replicate k (ns.map V.int)).flatten = (List.replicate k ns).flatten.map V.int := by
  rw [List.map_flatten, List.map_replicate]
/-- [e for x in a slice], e changes nothing -/
theorem lc_cut {K : PySem.W.Frag} {wi : TI} {te : TE} {s : Nat} {σ : L2.St} {H : Hp} {Q : VK} (xs : List V) (f : V → V)
    (hwi : ∀ R : It → Hp → Prop, (∀ p, H p = none → R (Itl K p) (upd H p (.lst xs))) → wi σ H R) (hlen : xs.length ≤ 90000)
    (hw : ∀ x, wipe ((wipe σ [s]).set s (some x)) [s] = wipe σ [s])
    (he : ∀ (i : Nat) (x : V) (G : Hp) (Q' : VK), xs[i]? = some x → Same H G → Q' (f x) G → te ((wipe σ [s]).set s (some x)) G Q')
    (k : ∀ D H', H D = none → Same H H' → H' D = some (.lst (xs.map f)) → Q (.ref D) H') : tLc wi (gName s) tYes te [s] σ H Q := by
  refine hwi _ fun p hp D hD => ?_
  have nD : D ≠ p := fun z => by rw [z, upd_same] at hD; cases hD
  have hD0 : H D = none := by rw [upd_ne nD] at hD; exact hD
  refine lc_list (K := K) (a := p) (xs := xs) (fun i H' => Same H H' ∧ H' p = some (.lst xs) ∧ H' D = some (.lst ((xs.take i).map f)))
    ⟨(same_upd hp).trans (same_upd hD), by rw [upd_ne nD.symm, upd_same], by rw [upd_same]; rfl⟩ (fun i H' _ h => sql h.2.1) (fun i x G hx hG => ?_) (fun G hG => ?_)
  · refine ⟨hw x, ?_⟩
    refine he i x G _ hx hG.1 ⟨_, hG.2.2, szl (by rw [List.length_map, List.length_take]; omega), same_put hG.1 hD0, by rw [upd_ne nD.symm]; exact hG.2.1, ?_⟩
    rw [upd_same, take_more hx, List.map_append]
    rfl
  · refine k D G hD0 hG.1 ?_
    rw [List.take_length] at hG
    exact hG.2.2
/-- lists of ints as data -/
theorem dpa_ints {K : PySem.W.Frag} {H : Hp} : ∀ ns : List Int, DpAll K H (ns.map V.int) (ns.map PyData.int)
  | [] => .nil
  | n :: ns => .cons (.int n) (dpa_ints ns)
theorem dp_ints {K : PySem.W.Frag} {H : Hp} {a : Addr} {ns : List Int} (h : SqL K H a (ns.map V.int)) : Dp K H (.ref a) (.list (ns.map PyData.int)) := .lst h (dpa_ints ns)
theorem flat_ints (ns : List Int) : Flat 1 (.list (ns.map PyData.int)) := flat_list (n := 0) fun d hd => by
  obtain ⟨i, _, rfl⟩ := List.mem_map.mp hd
  exact flat_int _ _
theorem flat_tints (ns : List Int) : Flat 1 (.tuple (ns.map PyData.int)) := flat_tup (n := 0) fun d hd => by
  obtain ⟨i, _, rfl⟩ := List.mem_map.mp hd
  exact flat_int _ _
theorem eqvAll_ints : ∀ xs ys : List Int, PyData.eqvAll (xs.map .int) (ys.map .int) = decide (xs = ys)
  | [], [] => rfl
  | [], _ :: _ => rfl
  | _ :: _, [] => rfl
  | x :: xs, y :: ys => by
    show ((x == y) && PyData.eqvAll (xs.map .int) (ys.map .int)) = _
    rw [eqvAll_ints xs ys, Bool.eq_iff_iff]
    simp
theorem eqv_ints (xs ys : List Int) : PyData.eqv (.list (xs.map .int)) (.list (ys.map .int)) = decide (xs = ys) := eqvAll_ints xs ys
theorem eqv_tints (xs ys : List Int) : PyData.eqv (.tuple (xs.map .int)) (.tuple (ys.map .int)) = decide (xs = ys) := eqvAll_ints xs ys
/-- a def with defaults that lets nothing out -/
theorem okD {P : Program} {w : World} {K : PySem.W.Frag} {mg : Str → Option Value} {base : Heap} {x qual : Str} {params : Arguments} {body : List Stmt} {scope : Scope} {dvs : List V} {kws : List (Str × V)} {f : Addr} {fd : FuncData} {N ps : List Str} {k : Nat} {sp : Sp}
    (F : FunD K x qual params body scope dvs kws f fd) (S : FnScope N ps scope) (len : ∀ vs H Q E, sp vs H Q E → vs.length = ps.length)
    (hb : ∀ (cdv : Value) (A : Around) (outer : List Env) (s : Shared) (H : Hp) (vs : List V) (Q : VK) (E : XK), Room k (A.deeper (envOfC qual scope s.heap.objs.size f cdv)) → sp vs H Q E →
      ∃ t, PSs (cxOf CX0 P w K mg base N qual scope f cdv A outer s H E).nox body t ∧ t { nx := fun _ H' => Q .non H', rt := Q } (start N vs) H) : FnOk P w K mg base CX0 (k + 1) f fd ps sp :=
  F.ok S len fun cdv A outer s H vs Q E hr h => by
    obtain ⟨t, h1, q⟩ := hb cdv A outer s H vs Q E hr h
    exact ⟨t, h1.nox, q⟩
/-! what an expression gives, whatever stands besides -/
def EI (te : TE) (σ : L2.St) (H : Hp) (v : V) : Prop := ∀ G, Same H G → ∀ Q : VK, Q v G → te σ G Q
def EA (ta : TA) (σ : L2.St) (H : Hp) (vs : List V) : Prop := ∀ G, Same H G → ∀ Q : List V → Hp → Prop, Q vs G → ta σ G Q
/-- a list, new or old -/
def EL (te : TE) (σ : L2.St) (H : Hp) (xs : List V) : Prop := ∀ G, Same H G → ∀ Q : VK, (∀ p G', Same G G' → G' p = some (.lst xs) → Q (.ref p) G') → te σ G Q
section
variable {K : PySem.W.Frag} {σ : L2.St} {H : Hp} {ta tb te : TE} {x y z v : V} {xs ys : List V}
theorem ei_var {i : Nat} (h : σ[i]? = some (some v)) : EI (tVar i) σ H v := fun _ _ _ q => ⟨v, h, q⟩
theorem ei_c : EI (tC v) σ H v := fun _ _ _ q => q
theorem ei_op {r : R2} (ha : EI ta σ H x) (hb : EI tb σ H y) (hr : ∀ G, Same H G → ∀ Q : VK, Q z G → r x y G Q) : EI (tOp r ta tb) σ H z := fun G s Q q => ha G s _ (hb G s _ (hr G s Q q))
theorem ei_i0 {g : Int → Int → V} {i j : Int} (ha : EI ta σ H (.int i)) (hb : EI tb σ H (.int j)) : EI (tOp (rI0 g) ta tb) σ H (g i j) := ei_op ha hb fun _ _ _ q => ⟨i, j, rfl, rfl, q⟩
theorem ei_ic {C : Int → Int → Prop} {g : Int → Int → V} {i j : Int} (ha : EI ta σ H (.int i)) (hb : EI tb σ H (.int j)) (hc : C i j) : EI (tOp (rI C g) ta tb) σ H (g i j) := ei_op ha hb fun _ _ _ q => ⟨i, j, rfl, rfl, hc, q⟩
theorem ea_nil : EA tNil σ H [] := fun _ _ _ q => q
theorem ea_cons {tr : TA} {vs : List V} (h : EI ta σ H x) (g : EA tr σ H vs) : EA (tCons ta tr) σ H (x :: vs) := fun G s _ q => h G s _ (g G s _ q)
theorem ei_cb {r : List V → Hp → VK → Prop} {tr : TA} {vs : List V} (ha : EA tr σ H vs) (hr : ∀ G, Same H G → ∀ Q : VK, Q z G → r vs G Q) : EI (tCB r tr) σ H z := fun G s Q q => ha G s _ (hr G s Q q)
/-- len of a list, list(..) of a list or a tuple, as they are read -/
def rLen (K : PySem.W.Frag) : List V → Hp → VK → Prop := fun xs H Q => ∃ p ys, xs = [.ref p] ∧ (SqL K H p ys ∨ SqT K H p ys) ∧ Q (.int ys.length) H
def rLst (K : PySem.W.Frag) : List V → Hp → VK → Prop := fun xs H Q => ∃ p ys, xs = [.ref p] ∧ (SqL K H p ys ∨ SqT K H p ys) ∧ ∀ l, H l = none → Q (.ref l) (upd H l (.lst ys))
def rTup (K : PySem.W.Frag) : List V → Hp → VK → Prop := fun xs H Q => ∃ p ys, xs = [.ref p] ∧ ((SqL K H p ys ∧ ∀ l, H l = none → Q (.ref l) (upd H l (.tup ys))) ∨ (SqT K H p ys ∧ Q (.ref p) H))
theorem callK_tuple {X : Cx} (h : X.K = K) : CallR X (.type "tuple") (rTup K) := by subst h; exact call_tuple_of
theorem callK_list {X : Cx} (h : X.K = K) : CallR X (.type "list") (rLst K) := by subst h; exact call_list_of
theorem opK_catA {X : Cx} (h : X.K = K) : OpR X (binaryOp .Add) (rCatA K) := by subst h; exact op_catA
theorem ixK_list {X : Cx} (h : X.K = K) : IxR X (rIxL K) := by subst h; exact ix_list
theorem ixK_tup {X : Cx} (h : X.K = K) : IxR X (rIxT K) := by subst h; exact ix_tup
theorem pe_fldK {X : Cx} {e : Expr} {f : Str} {pos : Pos} {ta : TE} (h : X.K = K) (he : PE X e ta) (hb : attributeBase e f X.env (eval e X.env) = eval e X.env) : PE X (.Attribute e f pos) (tFld K ta f) := by subst h; exact pe_fld he hb
theorem callK_len {X : Cx} (h : X.K = K) : CallR X (.builtin "len") (rLen K) := by subst h; exact call_len_seq
theorem ei_lenL {i : Nat} {p : Addr} (h : σ[i]? = some (some (.ref p))) (e : SqL K H p xs) : EI (tCB (rLen K) (tCons (tVar i) tNil)) σ H (.int (xs.length : Int)) := ei_cb (ea_cons (ei_var h) ea_nil) fun _ s _ q => ⟨p, xs, rfl, .inl (s.seq e), q⟩
theorem ei_lenT {i : Nat} {p : Addr} (h : σ[i]? = some (some (.ref p))) (e : SqT K H p xs) : EI (tCB (rLen K) (tCons (tVar i) tNil)) σ H (.int (xs.length : Int)) := ei_cb (ea_cons (ei_var h) ea_nil) fun _ s _ q => ⟨p, xs, rfl, .inr (sqt_same s e), q⟩
theorem ei_fld {i : Nat} {p C dx : Addr} {fs : List (Str × V)} {f : Str} (h : σ[i]? = some (some (.ref p))) (hp : H p = some (.ins C dx fs)) (c : Cls K C) (n : NoAttr K C f) (l : fs.lookup f = some v) : EI (tFld K (tVar i) f) σ H v := fun _ s _ q => ⟨.ref p, h, p, C, dx, fs, v, rfl, s _ _ hp, c, n, l, q⟩
theorem ei_din {td : TE} {d : Addr} {kvs : List (Key × V)} {k : Key} (hy : EI te σ H (kV k)) (hd : EI td σ H (.ref d)) (e : H d = some (.dK kvs)) : EI (tDIn te td) σ H (.bl (valV kvs k).isSome) := fun G s _ q => hy G s _ (hd G s _ ⟨d, _, rfl, DGet.k (s _ _ e), q⟩)
theorem ei_dnotin {td : TE} {d : Addr} {kvs : List (Key × V)} {k : Key} (hy : EI te σ H (kV k)) (hd : EI td σ H (.ref d)) (e : H d = some (.dK kvs)) : EI (tDNotIn te td) σ H (.bl (!(valV kvs k).isSome)) := fun G s _ q => hy G s _ (hd G s _ ⟨d, _, rfl, DGet.k (s _ _ e), q⟩)
theorem ei_dget {td : TE} {d : Addr} {kvs : List (Key × V)} {k : Key} (hy : EI te σ H (kV k)) (hd : EI td σ H (.ref d)) (e : H d = some (.dK kvs)) (hv : valV kvs k = some v) : EI (tDGet td te) σ H v := fun G s _ q => hd G s _ (hy G s _ ⟨d, v, rfl, by rw [← hv]; exact DGet.k (s _ _ e), q⟩)
theorem ei_ixL {p : Addr} {j : Int} (ha : EI ta σ H (.ref p)) (hi : EI tb σ H (.int j)) (e : SqL K H p xs) (h : atI xs j = some v) : EI (tOp (rIxL K) ta tb) σ H v := ei_op ha hi fun _ s _ q => ⟨p, xs, j, v, rfl, rfl, s.seq e, h, q⟩
theorem ei_ixT {p : Addr} {j : Int} (ha : EI ta σ H (.ref p)) (hi : EI tb σ H (.int j)) (e : SqT K H p xs) (h : atI xs j = some v) : EI (tOp (rIxT K) ta tb) σ H v := ei_op ha hi fun _ s _ q => ⟨p, xs, j, v, rfl, rfl, sqt_same s e, h, q⟩
theorem ei_eq (ha : EI ta σ H x) (hb : EI tb σ H y) (h : scal x y = true) : EI (tOp rEq ta tb) σ H (.bl (decide (x = y))) := ei_op ha hb fun _ _ _ q => ⟨h, q⟩
theorem ei_ne (ha : EI ta σ H x) (hb : EI tb σ H y) (h : scal x y = true) : EI (tOp rNe ta tb) σ H (.bl (!decide (x = y))) := ei_op ha hb fun _ _ _ q => ⟨h, q⟩
/-- a test by its value -/
theorem tt_use {b : Bool} {Q : Bool → Hp → Prop} (h : EI te σ H (.bl b)) (k : Q b H) : tTest te σ H Q := h H (Same.refl _) _ ⟨b, rfl, k⟩
theorem tb_use {b : Bool} {Q : Bool → Hp → Prop} (h : EI te σ H (.bl b)) (k : Q b H) : tB te σ H Q := h H (Same.refl _) _ ⟨b, rfl, k⟩
theorem el_var {i : Nat} {p : Addr} (h : σ[i]? = some (some (.ref p))) (e : H p = some (.lst xs)) : EL (tVar i) σ H xs := fun G s _ q => ⟨.ref p, h, q p G (Same.refl _) (s _ _ e)⟩
/-- a new list -/
def EN (te : TE) (σ : L2.St) (H : Hp) (xs : List V) : Prop := ∀ G, Same H G → ∀ Q : VK, (∀ p G', G p = none → Same G G' → G' p = some (.lst xs) → Q (.ref p) G') → te σ G Q
theorem EN.el (h : EN te σ H xs) : EL te σ H xs := fun G s Q q => h G s Q fun p G' _ => q p G'
theorem en_lst {tr : TA} {vs : List V} (ha : EA tr σ H vs) (hl : vs.length ≤ 90000) : EN (tLst tr) σ H vs := fun G s _ q => ha G s _ ⟨sz (by omega), fun p hp => q p _ hp (same_upd hp) upd_same⟩
theorem en_cat (ha : EL ta σ H xs) (hb : EL tb σ H ys) (hl : xs.length + ys.length ≤ 90000) : EN (tOp rCat ta tb) σ H (xs ++ ys) := fun G s _ q =>
  ha G s _ fun p G1 s1 e1 => hb G1 (s.trans s1) _ fun p2 G2 s2 e2 => ⟨p, p2, xs, ys, rfl, rfl, s2 _ _ e1, e2, sz (by omega), fun p3 h3 => q p3 _ ((s1.trans s2).free h3) ((s1.trans s2).trans (same_upd h3)) upd_same⟩
theorem en_rep {k : Int} (ha : EL ta σ H xs) (hb : EI tb σ H (.int k)) (h1 : -1000000 ≤ k) (h2 : k ≤ 1000000) (hl : xs.length * k.toNat ≤ 90000) : EN (tOp rRep ta tb) σ H (List.replicate k.toNat xs).flatten := fun G s _ q =>
  ha G s _ fun p G1 s1 e1 => hb G1 (s.trans s1) _ ⟨p, k, xs, rfl, rfl, e1, by omega, by omega, sz (by omega), fun p3 h3 => q p3 _ (s1.free h3) (s1.trans (same_upd h3)) upd_same⟩
theorem el_lst {tr : TA} {vs : List V} (ha : EA tr σ H vs) (hl : vs.length ≤ 90000) : EL (tLst tr) σ H vs := (en_lst ha hl).el
theorem el_cat (ha : EL ta σ H xs) (hb : EL tb σ H ys) (hl : xs.length + ys.length ≤ 90000) : EL (tOp rCat ta tb) σ H (xs ++ ys) := (en_cat ha hb hl).el
theorem el_rep {k : Int} (ha : EL ta σ H xs) (hb : EI tb σ H (.int k)) (h1 : -1000000 ≤ k) (h2 : k ≤ 1000000) (hl : xs.length * k.toNat ≤ 90000) : EL (tOp rRep ta tb) σ H (List.replicate k.toNat xs).flatten := (en_rep ha hb h1 h2 hl).el
theorem el_cb {r : List V → Hp → VK → Prop} {tr : TA} {vs : List V} (ha : EA tr σ H vs) (hr : ∀ G, Same H G → ∀ Q : VK, (∀ p G', Same G G' → G' p = some (.lst xs) → Q (.ref p) G') → r vs G Q) : EL (tCB r tr) σ H xs := fun G s Q q => ha G s _ (hr G s Q q)
theorem el_call {sp : Sp} {dvs : List V} {E : XK} {tr : TA} {vs : List V} (ha : EA tr σ H vs) (hr : ∀ G, Same H G → ∀ Q : VK, (∀ p G', Same G G' → G' p = some (.lst xs) → Q (.ref p) G') → sp (vs ++ dvs) G Q E) : EL (tCall sp dvs E tr) σ H xs := fun G s Q q => ha G s _ (hr G s Q q)
theorem el_listL {i : Nat} {p : Addr} (h : σ[i]? = some (some (.ref p))) (e : SqL K H p xs) : EL (tCB (rLst K) (tCons (tVar i) tNil)) σ H xs := el_cb (ea_cons (ei_var h) ea_nil) fun _ s _ q => ⟨p, xs, rfl, .inl (s.seq e), fun l hl => q l _ (same_upd hl) upd_same⟩
theorem el_listT {i : Nat} {p : Addr} (h : σ[i]? = some (some (.ref p))) (e : SqT K H p xs) : EL (tCB (rLst K) (tCons (tVar i) tNil)) σ H xs := el_cb (ea_cons (ei_var h) ea_nil) fun _ s _ q => ⟨p, xs, rfl, .inr (sqt_same s e), fun l hl => q l _ (same_upd hl) upd_same⟩
/-- x = an expression that gives a list -/
theorem EL.use {Q : VK} (h : EL te σ H xs) (k : ∀ p H', Same H H' → H' p = some (.lst xs) → Q (.ref p) H') : te σ H Q := h H (Same.refl _) Q k
theorem EN.use {Q : VK} (h : EN te σ H xs) (k : ∀ p H', H p = none → Same H H' → H' p = some (.lst xs) → Q (.ref p) H') : te σ H Q := h H (Same.refl _) Q k
theorem EI.use {Q : VK} (h : EI te σ H v) (k : Q v H) : te σ H Q := h H (Same.refl _) Q k
end
/-- defaults: what is bound where keywords give the rest -/
theorem kb_one {K : PySem.W.Frag} {x qual : Str} {params : Arguments} {body : List Stmt} {scope : Scope} {dvs : List V} {f : Addr} {fd : FuncData} {ps : List Str} (F : FunD K x qual params body scope dvs [] f fd) (n : Nat) (ks : List Str) (hd : dvs ≠ [])
    (h : ∀ (T : Addr) (kV doc pm : Value) (an : Option Addr) (cdv ct : Value) (us ws its : List Value), us.length = n → ws.length = ks.length → its.length = dvs.length →
      ∃ k, bindArgs (PySem.W.fnOf x qual params body scope (.ref T) kV doc pm an cdv ct) ⟨us, ks.zip ws⟩ = seqItems? (.ref T) >>= k ∧ k (some its.toArray) = pure (ps.zip (us ++ ws))) :
    KBn K fd ps n ks (fun us ws => us ++ ws) (fun vs zs => vs ++ zs) := by
  obtain ⟨oc, od, dV, kV, doc, pm, an, cdv, ct, osl, rfl, lk, hcd, hD, hK⟩ := F.ex
  rcases hD with ⟨e, _⟩ | ⟨_, T, o, its, m, rfl, lT, oT, rT⟩
  · exact absurd e hd
  · refine ⟨fun s us ws X h1 h2 => BindsTo.of_looks fun M => ?_, fun r1 r2 => r1.append r2⟩
    obtain ⟨k, e1, e2⟩ := h T kV doc pm an cdv ct us ws its h1 h2 rT.length.symm
    rw [e1]
    exact looks_items X lT oT (.of_pure e2)
theorem andV_use {ta tb : TE} {σ : L2.St} {H : Hp} {Q : VK} {x y : Bool} (h1 : EI ta σ H (.bl x)) (h2 : x = true → ∀ Q' : VK, (∀ H', Same H H' → Q' (.bl y) H') → tb σ H Q') (k : ∀ H', Same H H' → Q (.bl (x && y)) H') : tAndV ta tb σ H Q := by
  refine h1 H (Same.refl _) _ ⟨x, rfl, ?_⟩
  cases x with
  | true => exact (if_pos rfl).mpr (h2 rfl _ k)
  | false => exact (if_neg Bool.false_ne_true).mpr (k H (Same.refl _))
/-- what is locked and let go stands as it stood -/
theorem unlock {H H' : Hp} {d : Addr} {od : Obj} {u : HO} (e : H d = some u) (s : Same (upd H d (.frz od u)) H') : Same H (upd H' d u) := fun b o h => by
  by_cases hb : b = d
  · subst hb
    rw [upd_same, ← e]
    exact h
  · rw [upd_ne hb]
    exact s b o (by rw [upd_ne hb]; exact h)
theorem take_filter {α : Type} {l : List α} {i : Nat} {x : α} (f : α → Bool) (h : l[i]? = some x) : (l.take (i + 1)).filter f = (l.take i).filter f ++ if f x then [x] else [] := by
  rw [take_more h, List.filter_append]
  cases e : f x <;> simp [e]
/-- [e for k in d if t] over the keys of a dict, t and e change nothing -/
theorem lc_keys {td te : TE} {tt : TT} {s : Nat} {σ : L2.St} {H : Hp} {Q : VK} (d : Addr) (kvs : List (Key × V)) (f : Key → Bool) (g : Key → V) (e : H d = some (.dK kvs)) (hlen : kvs.length ≤ 90000)
    (htd : ∀ od, EI td σ (upd H d (.frz od (.dK kvs))) (.ref d))
    (hw : ∀ x, wipe ((wipe σ [s]).set s (some x)) [s] = wipe σ [s])
    (ht : ∀ (od : Obj) (i : Nat) (k : Key) (v : V) (G : Hp) (Q' : Bool → Hp → Prop), kvs[i]? = some (k, v) → Same (upd H d (.frz od (.dK kvs))) G → Q' (f k) G → tt ((wipe σ [s]).set s (some (kV k))) G Q')
    (he : ∀ (od : Obj) (i : Nat) (k : Key) (v : V) (G : Hp) (Q' : VK), kvs[i]? = some (k, v) → Same (upd H d (.frz od (.dK kvs))) G → Q' (g k) G → te ((wipe σ [s]).set s (some (kV k))) G Q')
    (k : ∀ D H', H D = none → Same H H' → H' D = some (.lst ((kvs.filter fun kv => f kv.1).map fun kv => g kv.1)) → Q (.ref D) H') : tLockE (tLc (iKeys td) (gName s) tt te [s]) σ H Q := by
  refine ⟨d, _, e, trivial, fun od => htd od _ (Same.refl _) _ ⟨d, od, rfl, .inl ⟨kvs, upd_same, fun D hD => ?_⟩⟩⟩
  have nD : D ≠ d := fun z => by rw [z, upd_same] at hD; cases hD
  have hD0 : H D = none := by rw [upd_ne nD] at hD; exact hD
  refine lc_it walk_keys (fun i G => Same (upd H d (.frz od (.dK kvs))) G ∧ G D = some (.lst (((kvs.take i).filter fun kv => f kv.1).map fun kv => g kv.1)))
    ⟨same_upd hD, upd_same⟩ (fun i G _ h => h.1 _ _ upd_same) (fun i x G G' hi hG hy => ?_) (fun G hG => ?_)
  · obtain ⟨rfl, key, v, hkv, rfl⟩ := hy
    have hfl : ((kvs.take i).filter fun kv => f kv.1).length ≤ 90000 := Nat.le_trans (List.length_filter_le _ _) (by rw [List.length_take]; omega)
    refine ⟨hw _, ht od i key v _ _ hkv hG.1 ?_⟩
    have hts := take_filter (fun kv : Key × V => f kv.1) hkv
    cases hf : f key with
    | true =>
      refine (if_pos rfl).mpr (he od i key v _ _ hkv hG.1 ⟨_, hG.2, szl (by rw [List.length_map]; omega), same_put hG.1 hD, ?_⟩)
      rw [upd_same, hts, List.map_append]
      simp only [hf, if_true]
      rfl
    | false =>
      refine (if_neg Bool.false_ne_true).mpr ⟨hG.1, ?_⟩
      rw [hts]
      simp only [hf, Bool.false_eq_true, if_false, List.append_nil]
      exact hG.2
  · rw [List.take_length] at hG
    refine ⟨hG.1 _ _ upd_same, k D _ hD0 (unlock e hG.1) ?_⟩
    rw [upd_ne nD]
    exact hG.2
theorem put_fresh {kvs : List (Key × V)} {k : Key} {v : V} (h : ∀ kv ∈ kvs, kv.1 ≠ k) : putK kvs k v = kvs ++ [(k, v)] := by
  unfold putK
  rw [if_neg]
  intro z
  obtain ⟨kv, hm, hk⟩ := List.any_eq_true.mp z
  exact h kv hm (of_decide_eq_true hk)
theorem nd_ne {α β : Type} {l : List (α × β)} {i : Nat} {x : α × β} (nd : (l.map (·.1)).Nodup) (h : l[i]? = some x) : ∀ y ∈ l.take i, y.1 ≠ x.1 := fun y hy z => by
  obtain ⟨j, hj, rfl⟩ := List.getElem_of_mem hy
  rw [List.length_take] at hj
  rw [List.getElem_take] at z
  obtain ⟨hi, rfl⟩ := List.getElem?_eq_some_iff.mp h
  have e1 : (l.map (·.1))[j]? = some l[i].1 := by rw [List.getElem?_map, List.getElem?_eq_getElem (by omega), ← z]; rfl
  have e2 : (l.map (·.1))[i]? = some l[i].1 := by rw [List.getElem?_map, List.getElem?_eq_getElem hi]; rfl
  have := nd_ix nd e1 e2
  omega
/-- {k: e for k in d if t} over the keys of a dict -/
theorem dc_keys {td tv : TE} {tt : TT} {s : Nat} {σ : L2.St} {H : Hp} {Q : VK} (d : Addr) (kvs : List (Key × V)) (f : Key → Bool) (g : Key × V → V) (e : H d = some (.dK kvs)) (hlen : kvs.length ≤ 90000) (nd : (kvs.map (·.1)).Nodup)
    (htd : ∀ od, EI td σ (upd H d (.frz od (.dK kvs))) (.ref d))
    (hw : ∀ x, wipe ((wipe σ [s]).set s (some x)) [s] = wipe σ [s])
    (ht : ∀ (od : Obj) (i : Nat) (k : Key) (v : V) (G : Hp) (Q' : Bool → Hp → Prop), kvs[i]? = some (k, v) → Same (upd H d (.frz od (.dK kvs))) G → Q' (f k) G → tt ((wipe σ [s]).set s (some (kV k))) G Q')
    (he : ∀ (od : Obj) (i : Nat) (k : Key) (v : V) (G : Hp) (Q' : VK), kvs[i]? = some (k, v) → f k = true → Same (upd H d (.frz od (.dK kvs))) G → Q' (g (k, v)) G → tv ((wipe σ [s]).set s (some (kV k))) G Q')
    (hn : ∀ i, (wipe σ [s]).length = i → s < i)
    (k : ∀ D H', H D = none → Same H H' → H' D = some (.dK ((kvs.filter fun kv => f kv.1).map fun kv => (kv.1, g kv))) → Q (.ref D) H') : tLockE (tDc (iKeys td) (gName s) tt (tVar s) tv [s]) σ H Q := by
  have hs : s < (wipe σ [s]).length := hn _ rfl
  refine ⟨d, _, e, trivial, fun od => htd od _ (Same.refl _) _ ⟨d, od, rfl, .inl ⟨kvs, upd_same, fun D hD => ?_⟩⟩⟩
  have nD : D ≠ d := fun z => by rw [z, upd_same] at hD; cases hD
  have hD0 : H D = none := by rw [upd_ne nD] at hD; exact hD
  let Pv : Nat → Hp → Prop := fun i G => Same (upd H d (.frz od (.dK kvs))) G ∧ G D = some (.dK (((kvs.take i).filter fun kv => f kv.1).map fun kv => (kv.1, g kv)))
  have step : ∀ i x G G', i < kvs.length → Pv i G → (G' = G ∧ ∃ k v, kvs[i]? = some (k, v) ∧ x = kV k) → gName s x (wipe σ [s]) G' fun σ2 H2 => wipe σ2 [s] = wipe σ [s] ∧ tt σ2 H2 fun b H3 =>
      if b = true then tVar s σ2 H3 fun y H4 => tv σ2 H4 fun z H5 => ∃ kvs' k', y = kV k' ∧ H5 D = some (.dK kvs') ∧ kvs'.length < sizeLine ∧ Pv (i + 1) (upd H5 D (.dK (putK kvs' k' z))) else Pv (i + 1) H3 := fun i x G G' hi hG hy => by
    obtain ⟨rfl, key, v, hkv, rfl⟩ := hy
    have hfl : ((kvs.take i).filter fun kv => f kv.1).length ≤ 90000 := Nat.le_trans (List.length_filter_le _ _) (by rw [List.length_take]; omega)
    refine ⟨hw _, ht od i key v _ _ hkv hG.1 ?_⟩
    have hts := take_filter (fun kv : Key × V => f kv.1) hkv
    cases hf : f key with
    | true =>
      refine (if_pos rfl).mpr ⟨kV key, by rw [List.getElem?_set_self hs], he od i key v _ _ hkv hf hG.1 ⟨_, key, rfl, hG.2, szl (by rw [List.length_map]; omega), same_put hG.1 hD, ?_⟩⟩
      rw [upd_same, hts, List.map_append, put_fresh]
      · simp only [hf, if_true]
        rfl
      · intro kv hm
        obtain ⟨y, hy, rfl⟩ := List.mem_map.mp hm
        exact nd_ne nd hkv y (List.mem_filter.mp hy).1
    | false =>
      refine (if_neg Bool.false_ne_true).mpr ⟨hG.1, ?_⟩
      rw [hts]
      simp only [hf, Bool.false_eq_true, if_false, List.append_nil]
      exact hG.2
  refine ⟨fun i m G => m = kvs.length - i ∧ i ≤ kvs.length ∧ Pv i G, ⟨kvs.length, by simp, Nat.zero_le _, same_upd hD, upd_same⟩, ?_⟩
  rintro i m G ⟨rfl, hi, hP⟩
  by_cases hlt : i < kvs.length
  · exact .inr ⟨⟨hP.1 _ _ upd_same, hlt⟩, Pv (i + 1), fun G' p' => ⟨kvs.length - (i + 1), by omega, rfl, hlt, p'⟩, fun x G' y => step i x G G' hlt hP y⟩
  · have ei : i = kvs.length := by omega
    subst ei
    obtain ⟨h1, h2⟩ := hP
    rw [List.take_length] at h2
    refine .inl ⟨⟨h1 _ _ upd_same, Nat.le_refl _⟩, h1 _ _ upd_same, k D _ hD0 (unlock e h1) ?_⟩
    rw [upd_ne nD]
    exact h2
end My
local macro_rules | `(tactic| walk_at "go") => `(tactic| try dsimp only [L2.gName, L2.tSeq, L2.tAsg, L2.tNext, L2.tDrop])
namespace My
open PySem PySem.Spec PyProof.Rows L2
def topS (i : Nat) : Stmt := PySem.Challenge.pw_majordomo_k16_acceptor_keeps.main.body.getD i (.Pass ⟨0, 0, 0, 0⟩)
abbrev s__is_record : Stmt := (topS 1)
theorem sc__is_record : FnScope ["record", "word", "size"] ["record", "word", "size"] (defScope s__is_record) := ⟨rfl, rfl, rfl, by decide +kernel, rfl, by decide +kernel, by decide +kernel⟩
abbrev s_Acceptor___init__ : Stmt := (inClass (topS 2) 0)
theorem sc_Acceptor___init__ : FnScope ["self"] ["self"] (defScope s_Acceptor___init__) := ⟨rfl, rfl, rfl, by decide +kernel, rfl, by decide +kernel, by decide +kernel⟩
abbrev s_Acceptor_prepare : Stmt := (inClass (topS 2) 1)
theorem sc_Acceptor_prepare : FnScope ["self", "ballot", "first", "rows", "slot"] ["self", "ballot", "first"] (defScope s_Acceptor_prepare) := ⟨rfl, rfl, rfl, by decide +kernel, rfl, by decide +kernel, by decide +kernel⟩
abbrev s_Acceptor_accept : Stmt := (inClass (topS 2) 2)
theorem sc_Acceptor_accept : FnScope ["self", "ballot", "slot", "value"] ["self", "ballot", "slot", "value"] (defScope s_Acceptor_accept) := ⟨rfl, rfl, rfl, by decide +kernel, rfl, by decide +kernel, by decide +kernel⟩
abbrev s_Acceptor_cut : Stmt := (inClass (topS 2) 3)
theorem sc_Acceptor_cut : FnScope ["self", "base", "slot"] ["self", "base"] (defScope s_Acceptor_cut) := ⟨rfl, rfl, rfl, by decide +kernel, rfl, by decide +kernel, by decide +kernel⟩
abbrev s_Acceptor_replay : Stmt := (inClass (topS 2) 4)
theorem sc_Acceptor_replay : FnScope ["self", "record", "ballot", "slot", "value"] ["self", "record"] (defScope s_Acceptor_replay) := ⟨rfl, rfl, rfl, by decide +kernel, rfl, by decide +kernel, by decide +kernel⟩
abbrev s__law_draws : Stmt := (topS 4)
theorem sc__law_draws : FnScope ["script", "draws", "k", "cell", "turn", "mixed"] ["script"] (defScope s__law_draws) := ⟨rfl, rfl, rfl, by decide +kernel, rfl, by decide +kernel, by decide +kernel⟩
abbrev s__law_rows : Stmt := (topS 5)
theorem sc__law_rows : FnScope ["kept", "first", "rows", "slot", "last", "one"] ["kept", "first"] (defScope s__law_rows) := ⟨rfl, rfl, rfl, by decide +kernel, rfl, by decide +kernel, by decide +kernel⟩
abbrev s__law_is_state : Stmt := (topS 6)
theorem sc__law_is_state : FnScope ["acceptor", "model", "field"] ["acceptor", "model"] (defScope s__law_is_state) := ⟨rfl, rfl, rfl, by decide +kernel, rfl, by decide +kernel, by decide +kernel⟩
abbrev s__law_accept : Stmt := (topS 7)
theorem sc__law_accept : FnScope ["model", "ballot", "slot", "value", "one"] ["model", "ballot", "slot", "value"] (defScope s__law_accept) := ⟨rfl, rfl, rfl, by decide +kernel, rfl, by decide +kernel, by decide +kernel⟩
abbrev s__law_deed : Stmt := (topS 8)
theorem sc__law_deed : FnScope ["acceptor", "model", "records", "kind", "ballot", "slot", "value", "due", "record", "one"] ["acceptor", "model", "records", "kind", "ballot", "slot", "value"] (defScope s__law_deed) := ⟨rfl, rfl, rfl, by decide +kernel, rfl, by decide +kernel, by decide +kernel⟩
abbrev s_law : Stmt := (topS 9)
theorem sc_law : FnScope ["script", "draws", "acceptor", "model", "records", "k", "one", "ballot", "slot", "twin", "record", "last"] ["script"] (defScope s_law) := ⟨rfl, rfl, rfl, by decide +kernel, rfl, by decide +kernel, by decide +kernel⟩

structure TX (K : PySem.W.Frag) (mg : Str → Option Value) where
  a_Acceptor : Addr
  a__is_record : Addr
  d__is_record : FuncData
  F__is_record : Fun K "_is_record" "_is_record" s__is_record a__is_record d__is_record
  b__is_record : Binds K d__is_record ["record", "word", "size"] []
  g__is_record : mg "_is_record" = some (.ref a__is_record)
  a_Acceptor___init__ : Addr
  d_Acceptor___init__ : FuncData
  F_Acceptor___init__ : Fun K "__init__" "Acceptor.__init__" s_Acceptor___init__ a_Acceptor___init__ d_Acceptor___init__
  b_Acceptor___init__ : Binds K d_Acceptor___init__ ["self"] []
  a_Acceptor_prepare : Addr
  d_Acceptor_prepare : FuncData
  F_Acceptor_prepare : Fun K "prepare" "Acceptor.prepare" s_Acceptor_prepare a_Acceptor_prepare d_Acceptor_prepare
  b_Acceptor_prepare : Binds K d_Acceptor_prepare ["self", "ballot", "first"] []
  m_Acceptor_prepare : Meth K a_Acceptor "prepare" a_Acceptor_prepare
  a_Acceptor_accept : Addr
  d_Acceptor_accept : FuncData
  F_Acceptor_accept : Fun K "accept" "Acceptor.accept" s_Acceptor_accept a_Acceptor_accept d_Acceptor_accept
  b_Acceptor_accept : Binds K d_Acceptor_accept ["self", "ballot", "slot", "value"] []
  m_Acceptor_accept : Meth K a_Acceptor "accept" a_Acceptor_accept
  a_Acceptor_cut : Addr
  d_Acceptor_cut : FuncData
  F_Acceptor_cut : Fun K "cut" "Acceptor.cut" s_Acceptor_cut a_Acceptor_cut d_Acceptor_cut
  b_Acceptor_cut : Binds K d_Acceptor_cut ["self", "base"] []
  m_Acceptor_cut : Meth K a_Acceptor "cut" a_Acceptor_cut
  a_Acceptor_replay : Addr
  d_Acceptor_replay : FuncData
  F_Acceptor_replay : Fun K "replay" "Acceptor.replay" s_Acceptor_replay a_Acceptor_replay d_Acceptor_replay
  b_Acceptor_replay : Binds K d_Acceptor_replay ["self", "record"] []
  m_Acceptor_replay : Meth K a_Acceptor "replay" a_Acceptor_replay
  a__law_draws : Addr
  d__law_draws : FuncData
  F__law_draws : Fun K "_law_draws" "_law_draws" s__law_draws a__law_draws d__law_draws
  b__law_draws : Binds K d__law_draws ["script"] []
  g__law_draws : mg "_law_draws" = some (.ref a__law_draws)
  a__law_rows : Addr
  d__law_rows : FuncData
  F__law_rows : Fun K "_law_rows" "_law_rows" s__law_rows a__law_rows d__law_rows
  b__law_rows : Binds K d__law_rows ["kept", "first"] []
  g__law_rows : mg "_law_rows" = some (.ref a__law_rows)
  a__law_is_state : Addr
  d__law_is_state : FuncData
  F__law_is_state : Fun K "_law_is_state" "_law_is_state" s__law_is_state a__law_is_state d__law_is_state
  b__law_is_state : Binds K d__law_is_state ["acceptor", "model"] []
  g__law_is_state : mg "_law_is_state" = some (.ref a__law_is_state)
  a__law_accept : Addr
  d__law_accept : FuncData
  F__law_accept : Fun K "_law_accept" "_law_accept" s__law_accept a__law_accept d__law_accept
  b__law_accept : Binds K d__law_accept ["model", "ballot", "slot", "value"] []
  g__law_accept : mg "_law_accept" = some (.ref a__law_accept)
  a__law_deed : Addr
  d__law_deed : FuncData
  F__law_deed : Fun K "_law_deed" "_law_deed" s__law_deed a__law_deed d__law_deed
  b__law_deed : Binds K d__law_deed ["acceptor", "model", "records", "kind", "ballot", "slot", "value"] []
  g__law_deed : mg "_law_deed" = some (.ref a__law_deed)
  a_law : Addr
  d_law : FuncData
  F_law : Fun K "law" "law" s_law a_law d_law
  b_law : Binds K d_law ["script"] []
  g_law : mg "law" = some (.ref a_law)
  K_Acceptor : Cls K a_Acceptor
  g_Acceptor : mg "Acceptor" = some (.ref a_Acceptor)
  M_Acceptor : Mk K a_Acceptor a_Acceptor___init__
  na_Acceptor_promised : NoAttr K a_Acceptor "promised"
  na_Acceptor_base : NoAttr K a_Acceptor "base"
  na_Acceptor__accepted : NoAttr K a_Acceptor "_accepted"
  n_range : mg "range" = none
  n_min : mg "min" = none
  n_len : mg "len" = none
  n_abs : mg "abs" = none
  n_int : mg "int" = none
  n_isinstance : mg "isinstance" = none
  n_tuple : mg "tuple" = none
  n_max : mg "max" = none
  n_sorted : mg "sorted" = none
  n_bool : mg "bool" = none

theorem ne_Acceptor_promised_base : (Str.ofString "promised" == Str.ofString "base") = false := by decide +kernel
theorem ne_Acceptor_promised_base_p : ¬ (Str.ofString "promised" = Str.ofString "base") := by decide +kernel
theorem ne_Acceptor_promised__accepted : (Str.ofString "promised" == Str.ofString "_accepted") = false := by decide +kernel
theorem ne_Acceptor_promised__accepted_p : ¬ (Str.ofString "promised" = Str.ofString "_accepted") := by decide +kernel
theorem ne_Acceptor_base_promised : (Str.ofString "base" == Str.ofString "promised") = false := by decide +kernel
theorem ne_Acceptor_base_promised_p : ¬ (Str.ofString "base" = Str.ofString "promised") := by decide +kernel
theorem ne_Acceptor_base__accepted : (Str.ofString "base" == Str.ofString "_accepted") = false := by decide +kernel
theorem ne_Acceptor_base__accepted_p : ¬ (Str.ofString "base" = Str.ofString "_accepted") := by decide +kernel
theorem ne_Acceptor__accepted_promised : (Str.ofString "_accepted" == Str.ofString "promised") = false := by decide +kernel
theorem ne_Acceptor__accepted_promised_p : ¬ (Str.ofString "_accepted" = Str.ofString "promised") := by decide +kernel
theorem ne_Acceptor__accepted_base : (Str.ofString "_accepted" == Str.ofString "base") = false := by decide +kernel
theorem ne_Acceptor__accepted_base_p : ¬ (Str.ofString "_accepted" = Str.ofString "base") := by decide +kernel
theorem ne_Acceptor_prepare_promised : (Str.ofString "prepare" == Str.ofString "promised") = false := by decide +kernel
theorem ne_Acceptor_prepare_promised_p : ¬ (Str.ofString "prepare" = Str.ofString "promised") := by decide +kernel
theorem ne_Acceptor_prepare_base : (Str.ofString "prepare" == Str.ofString "base") = false := by decide +kernel
theorem ne_Acceptor_prepare_base_p : ¬ (Str.ofString "prepare" = Str.ofString "base") := by decide +kernel
theorem ne_Acceptor_prepare__accepted : (Str.ofString "prepare" == Str.ofString "_accepted") = false := by decide +kernel
theorem ne_Acceptor_prepare__accepted_p : ¬ (Str.ofString "prepare" = Str.ofString "_accepted") := by decide +kernel
theorem ne_Acceptor_accept_promised : (Str.ofString "accept" == Str.ofString "promised") = false := by decide +kernel
theorem ne_Acceptor_accept_promised_p : ¬ (Str.ofString "accept" = Str.ofString "promised") := by decide +kernel
theorem ne_Acceptor_accept_base : (Str.ofString "accept" == Str.ofString "base") = false := by decide +kernel
theorem ne_Acceptor_accept_base_p : ¬ (Str.ofString "accept" = Str.ofString "base") := by decide +kernel
theorem ne_Acceptor_accept__accepted : (Str.ofString "accept" == Str.ofString "_accepted") = false := by decide +kernel
theorem ne_Acceptor_accept__accepted_p : ¬ (Str.ofString "accept" = Str.ofString "_accepted") := by decide +kernel
theorem ne_Acceptor_cut_promised : (Str.ofString "cut" == Str.ofString "promised") = false := by decide +kernel
theorem ne_Acceptor_cut_promised_p : ¬ (Str.ofString "cut" = Str.ofString "promised") := by decide +kernel
theorem ne_Acceptor_cut_base : (Str.ofString "cut" == Str.ofString "base") = false := by decide +kernel
theorem ne_Acceptor_cut_base_p : ¬ (Str.ofString "cut" = Str.ofString "base") := by decide +kernel
theorem ne_Acceptor_cut__accepted : (Str.ofString "cut" == Str.ofString "_accepted") = false := by decide +kernel
theorem ne_Acceptor_cut__accepted_p : ¬ (Str.ofString "cut" = Str.ofString "_accepted") := by decide +kernel
theorem ne_Acceptor_replay_promised : (Str.ofString "replay" == Str.ofString "promised") = false := by decide +kernel
theorem ne_Acceptor_replay_promised_p : ¬ (Str.ofString "replay" = Str.ofString "promised") := by decide +kernel
theorem ne_Acceptor_replay_base : (Str.ofString "replay" == Str.ofString "base") = false := by decide +kernel
theorem ne_Acceptor_replay_base_p : ¬ (Str.ofString "replay" = Str.ofString "base") := by decide +kernel
theorem ne_Acceptor_replay__accepted : (Str.ofString "replay" == Str.ofString "_accepted") = false := by decide +kernel
theorem ne_Acceptor_replay__accepted_p : ¬ (Str.ofString "replay" = Str.ofString "_accepted") := by decide +kernel
/-- the attributes of a Acceptor, in the order in which they are stored -/
def fl_Acceptor (v0 v1 v2 : V) : List (Str × V) := [("promised", v0), ("base", v1), ("_accepted", v2)]
theorem fl_Acceptor_promised {v0 v1 v2 : V} : (fl_Acceptor v0 v1 v2).lookup ("promised" : Str) = some v0 := by unfold fl_Acceptor; simp [List.lookup, ne_Acceptor_promised_base, ne_Acceptor_promised__accepted, ne_Acceptor_base_promised, ne_Acceptor_base__accepted, ne_Acceptor__accepted_promised, ne_Acceptor__accepted_base, ne_Acceptor_prepare_promised, ne_Acceptor_prepare_base, ne_Acceptor_prepare__accepted, ne_Acceptor_accept_promised, ne_Acceptor_accept_base, ne_Acceptor_accept__accepted, ne_Acceptor_cut_promised, ne_Acceptor_cut_base, ne_Acceptor_cut__accepted, ne_Acceptor_replay_promised, ne_Acceptor_replay_base, ne_Acceptor_replay__accepted, ne_Acceptor_promised_base_p, ne_Acceptor_promised__accepted_p, ne_Acceptor_base_promised_p, ne_Acceptor_base__accepted_p, ne_Acceptor__accepted_promised_p, ne_Acceptor__accepted_base_p, ne_Acceptor_prepare_promised_p, ne_Acceptor_prepare_base_p, ne_Acceptor_prepare__accepted_p, ne_Acceptor_accept_promised_p, ne_Acceptor_accept_base_p, ne_Acceptor_accept__accepted_p, ne_Acceptor_cut_promised_p, ne_Acceptor_cut_base_p, ne_Acceptor_cut__accepted_p, ne_Acceptor_replay_promised_p, ne_Acceptor_replay_base_p, ne_Acceptor_replay__accepted_p]
theorem pf_Acceptor_promised {v0 v1 v2 x : V} : putF ("promised" : Str) x (fl_Acceptor v0 v1 v2) = fl_Acceptor x v1 v2 := by unfold fl_Acceptor; simp [putF, ne_Acceptor_promised_base, ne_Acceptor_promised__accepted, ne_Acceptor_base_promised, ne_Acceptor_base__accepted, ne_Acceptor__accepted_promised, ne_Acceptor__accepted_base, ne_Acceptor_prepare_promised, ne_Acceptor_prepare_base, ne_Acceptor_prepare__accepted, ne_Acceptor_accept_promised, ne_Acceptor_accept_base, ne_Acceptor_accept__accepted, ne_Acceptor_cut_promised, ne_Acceptor_cut_base, ne_Acceptor_cut__accepted, ne_Acceptor_replay_promised, ne_Acceptor_replay_base, ne_Acceptor_replay__accepted, ne_Acceptor_promised_base_p, ne_Acceptor_promised__accepted_p, ne_Acceptor_base_promised_p, ne_Acceptor_base__accepted_p, ne_Acceptor__accepted_promised_p, ne_Acceptor__accepted_base_p, ne_Acceptor_prepare_promised_p, ne_Acceptor_prepare_base_p, ne_Acceptor_prepare__accepted_p, ne_Acceptor_accept_promised_p, ne_Acceptor_accept_base_p, ne_Acceptor_accept__accepted_p, ne_Acceptor_cut_promised_p, ne_Acceptor_cut_base_p, ne_Acceptor_cut__accepted_p, ne_Acceptor_replay_promised_p, ne_Acceptor_replay_base_p, ne_Acceptor_replay__accepted_p]
theorem fl_Acceptor_base {v0 v1 v2 : V} : (fl_Acceptor v0 v1 v2).lookup ("base" : Str) = some v1 := by unfold fl_Acceptor; simp [List.lookup, ne_Acceptor_promised_base, ne_Acceptor_promised__accepted, ne_Acceptor_base_promised, ne_Acceptor_base__accepted, ne_Acceptor__accepted_promised, ne_Acceptor__accepted_base, ne_Acceptor_prepare_promised, ne_Acceptor_prepare_base, ne_Acceptor_prepare__accepted, ne_Acceptor_accept_promised, ne_Acceptor_accept_base, ne_Acceptor_accept__accepted, ne_Acceptor_cut_promised, ne_Acceptor_cut_base, ne_Acceptor_cut__accepted, ne_Acceptor_replay_promised, ne_Acceptor_replay_base, ne_Acceptor_replay__accepted, ne_Acceptor_promised_base_p, ne_Acceptor_promised__accepted_p, ne_Acceptor_base_promised_p, ne_Acceptor_base__accepted_p, ne_Acceptor__accepted_promised_p, ne_Acceptor__accepted_base_p, ne_Acceptor_prepare_promised_p, ne_Acceptor_prepare_base_p, ne_Acceptor_prepare__accepted_p, ne_Acceptor_accept_promised_p, ne_Acceptor_accept_base_p, ne_Acceptor_accept__accepted_p, ne_Acceptor_cut_promised_p, ne_Acceptor_cut_base_p, ne_Acceptor_cut__accepted_p, ne_Acceptor_replay_promised_p, ne_Acceptor_replay_base_p, ne_Acceptor_replay__accepted_p]
theorem pf_Acceptor_base {v0 v1 v2 x : V} : putF ("base" : Str) x (fl_Acceptor v0 v1 v2) = fl_Acceptor v0 x v2 := by unfold fl_Acceptor; simp [putF, ne_Acceptor_promised_base, ne_Acceptor_promised__accepted, ne_Acceptor_base_promised, ne_Acceptor_base__accepted, ne_Acceptor__accepted_promised, ne_Acceptor__accepted_base, ne_Acceptor_prepare_promised, ne_Acceptor_prepare_base, ne_Acceptor_prepare__accepted, ne_Acceptor_accept_promised, ne_Acceptor_accept_base, ne_Acceptor_accept__accepted, ne_Acceptor_cut_promised, ne_Acceptor_cut_base, ne_Acceptor_cut__accepted, ne_Acceptor_replay_promised, ne_Acceptor_replay_base, ne_Acceptor_replay__accepted, ne_Acceptor_promised_base_p, ne_Acceptor_promised__accepted_p, ne_Acceptor_base_promised_p, ne_Acceptor_base__accepted_p, ne_Acceptor__accepted_promised_p, ne_Acceptor__accepted_base_p, ne_Acceptor_prepare_promised_p, ne_Acceptor_prepare_base_p, ne_Acceptor_prepare__accepted_p, ne_Acceptor_accept_promised_p, ne_Acceptor_accept_base_p, ne_Acceptor_accept__accepted_p, ne_Acceptor_cut_promised_p, ne_Acceptor_cut_base_p, ne_Acceptor_cut__accepted_p, ne_Acceptor_replay_promised_p, ne_Acceptor_replay_base_p, ne_Acceptor_replay__accepted_p]
theorem fl_Acceptor__accepted {v0 v1 v2 : V} : (fl_Acceptor v0 v1 v2).lookup ("_accepted" : Str) = some v2 := by unfold fl_Acceptor; simp [List.lookup, ne_Acceptor_promised_base, ne_Acceptor_promised__accepted, ne_Acceptor_base_promised, ne_Acceptor_base__accepted, ne_Acceptor__accepted_promised, ne_Acceptor__accepted_base, ne_Acceptor_prepare_promised, ne_Acceptor_prepare_base, ne_Acceptor_prepare__accepted, ne_Acceptor_accept_promised, ne_Acceptor_accept_base, ne_Acceptor_accept__accepted, ne_Acceptor_cut_promised, ne_Acceptor_cut_base, ne_Acceptor_cut__accepted, ne_Acceptor_replay_promised, ne_Acceptor_replay_base, ne_Acceptor_replay__accepted, ne_Acceptor_promised_base_p, ne_Acceptor_promised__accepted_p, ne_Acceptor_base_promised_p, ne_Acceptor_base__accepted_p, ne_Acceptor__accepted_promised_p, ne_Acceptor__accepted_base_p, ne_Acceptor_prepare_promised_p, ne_Acceptor_prepare_base_p, ne_Acceptor_prepare__accepted_p, ne_Acceptor_accept_promised_p, ne_Acceptor_accept_base_p, ne_Acceptor_accept__accepted_p, ne_Acceptor_cut_promised_p, ne_Acceptor_cut_base_p, ne_Acceptor_cut__accepted_p, ne_Acceptor_replay_promised_p, ne_Acceptor_replay_base_p, ne_Acceptor_replay__accepted_p]
theorem pf_Acceptor__accepted {v0 v1 v2 x : V} : putF ("_accepted" : Str) x (fl_Acceptor v0 v1 v2) = fl_Acceptor v0 v1 x := by unfold fl_Acceptor; simp [putF, ne_Acceptor_promised_base, ne_Acceptor_promised__accepted, ne_Acceptor_base_promised, ne_Acceptor_base__accepted, ne_Acceptor__accepted_promised, ne_Acceptor__accepted_base, ne_Acceptor_prepare_promised, ne_Acceptor_prepare_base, ne_Acceptor_prepare__accepted, ne_Acceptor_accept_promised, ne_Acceptor_accept_base, ne_Acceptor_accept__accepted, ne_Acceptor_cut_promised, ne_Acceptor_cut_base, ne_Acceptor_cut__accepted, ne_Acceptor_replay_promised, ne_Acceptor_replay_base, ne_Acceptor_replay__accepted, ne_Acceptor_promised_base_p, ne_Acceptor_promised__accepted_p, ne_Acceptor_base_promised_p, ne_Acceptor_base__accepted_p, ne_Acceptor__accepted_promised_p, ne_Acceptor__accepted_base_p, ne_Acceptor_prepare_promised_p, ne_Acceptor_prepare_base_p, ne_Acceptor_prepare__accepted_p, ne_Acceptor_accept_promised_p, ne_Acceptor_accept_base_p, ne_Acceptor_accept__accepted_p, ne_Acceptor_cut_promised_p, ne_Acceptor_cut_base_p, ne_Acceptor_cut__accepted_p, ne_Acceptor_replay_promised_p, ne_Acceptor_replay_base_p, ne_Acceptor_replay__accepted_p]
theorem fl_Acceptor_no_prepare {v0 v1 v2 : V} : (fl_Acceptor v0 v1 v2).lookup ("prepare" : Str) = none := by unfold fl_Acceptor; simp [List.lookup, ne_Acceptor_promised_base, ne_Acceptor_promised__accepted, ne_Acceptor_base_promised, ne_Acceptor_base__accepted, ne_Acceptor__accepted_promised, ne_Acceptor__accepted_base, ne_Acceptor_prepare_promised, ne_Acceptor_prepare_base, ne_Acceptor_prepare__accepted, ne_Acceptor_accept_promised, ne_Acceptor_accept_base, ne_Acceptor_accept__accepted, ne_Acceptor_cut_promised, ne_Acceptor_cut_base, ne_Acceptor_cut__accepted, ne_Acceptor_replay_promised, ne_Acceptor_replay_base, ne_Acceptor_replay__accepted, ne_Acceptor_promised_base_p, ne_Acceptor_promised__accepted_p, ne_Acceptor_base_promised_p, ne_Acceptor_base__accepted_p, ne_Acceptor__accepted_promised_p, ne_Acceptor__accepted_base_p, ne_Acceptor_prepare_promised_p, ne_Acceptor_prepare_base_p, ne_Acceptor_prepare__accepted_p, ne_Acceptor_accept_promised_p, ne_Acceptor_accept_base_p, ne_Acceptor_accept__accepted_p, ne_Acceptor_cut_promised_p, ne_Acceptor_cut_base_p, ne_Acceptor_cut__accepted_p, ne_Acceptor_replay_promised_p, ne_Acceptor_replay_base_p, ne_Acceptor_replay__accepted_p]
theorem fl_Acceptor_no_accept {v0 v1 v2 : V} : (fl_Acceptor v0 v1 v2).lookup ("accept" : Str) = none := by unfold fl_Acceptor; simp [List.lookup, ne_Acceptor_promised_base, ne_Acceptor_promised__accepted, ne_Acceptor_base_promised, ne_Acceptor_base__accepted, ne_Acceptor__accepted_promised, ne_Acceptor__accepted_base, ne_Acceptor_prepare_promised, ne_Acceptor_prepare_base, ne_Acceptor_prepare__accepted, ne_Acceptor_accept_promised, ne_Acceptor_accept_base, ne_Acceptor_accept__accepted, ne_Acceptor_cut_promised, ne_Acceptor_cut_base, ne_Acceptor_cut__accepted, ne_Acceptor_replay_promised, ne_Acceptor_replay_base, ne_Acceptor_replay__accepted, ne_Acceptor_promised_base_p, ne_Acceptor_promised__accepted_p, ne_Acceptor_base_promised_p, ne_Acceptor_base__accepted_p, ne_Acceptor__accepted_promised_p, ne_Acceptor__accepted_base_p, ne_Acceptor_prepare_promised_p, ne_Acceptor_prepare_base_p, ne_Acceptor_prepare__accepted_p, ne_Acceptor_accept_promised_p, ne_Acceptor_accept_base_p, ne_Acceptor_accept__accepted_p, ne_Acceptor_cut_promised_p, ne_Acceptor_cut_base_p, ne_Acceptor_cut__accepted_p, ne_Acceptor_replay_promised_p, ne_Acceptor_replay_base_p, ne_Acceptor_replay__accepted_p]
theorem fl_Acceptor_no_cut {v0 v1 v2 : V} : (fl_Acceptor v0 v1 v2).lookup ("cut" : Str) = none := by unfold fl_Acceptor; simp [List.lookup, ne_Acceptor_promised_base, ne_Acceptor_promised__accepted, ne_Acceptor_base_promised, ne_Acceptor_base__accepted, ne_Acceptor__accepted_promised, ne_Acceptor__accepted_base, ne_Acceptor_prepare_promised, ne_Acceptor_prepare_base, ne_Acceptor_prepare__accepted, ne_Acceptor_accept_promised, ne_Acceptor_accept_base, ne_Acceptor_accept__accepted, ne_Acceptor_cut_promised, ne_Acceptor_cut_base, ne_Acceptor_cut__accepted, ne_Acceptor_replay_promised, ne_Acceptor_replay_base, ne_Acceptor_replay__accepted, ne_Acceptor_promised_base_p, ne_Acceptor_promised__accepted_p, ne_Acceptor_base_promised_p, ne_Acceptor_base__accepted_p, ne_Acceptor__accepted_promised_p, ne_Acceptor__accepted_base_p, ne_Acceptor_prepare_promised_p, ne_Acceptor_prepare_base_p, ne_Acceptor_prepare__accepted_p, ne_Acceptor_accept_promised_p, ne_Acceptor_accept_base_p, ne_Acceptor_accept__accepted_p, ne_Acceptor_cut_promised_p, ne_Acceptor_cut_base_p, ne_Acceptor_cut__accepted_p, ne_Acceptor_replay_promised_p, ne_Acceptor_replay_base_p, ne_Acceptor_replay__accepted_p]
theorem fl_Acceptor_no_replay {v0 v1 v2 : V} : (fl_Acceptor v0 v1 v2).lookup ("replay" : Str) = none := by unfold fl_Acceptor; simp [List.lookup, ne_Acceptor_promised_base, ne_Acceptor_promised__accepted, ne_Acceptor_base_promised, ne_Acceptor_base__accepted, ne_Acceptor__accepted_promised, ne_Acceptor__accepted_base, ne_Acceptor_prepare_promised, ne_Acceptor_prepare_base, ne_Acceptor_prepare__accepted, ne_Acceptor_accept_promised, ne_Acceptor_accept_base, ne_Acceptor_accept__accepted, ne_Acceptor_cut_promised, ne_Acceptor_cut_base, ne_Acceptor_cut__accepted, ne_Acceptor_replay_promised, ne_Acceptor_replay_base, ne_Acceptor_replay__accepted, ne_Acceptor_promised_base_p, ne_Acceptor_promised__accepted_p, ne_Acceptor_base_promised_p, ne_Acceptor_base__accepted_p, ne_Acceptor__accepted_promised_p, ne_Acceptor__accepted_base_p, ne_Acceptor_prepare_promised_p, ne_Acceptor_prepare_base_p, ne_Acceptor_prepare__accepted_p, ne_Acceptor_accept_promised_p, ne_Acceptor_accept_base_p, ne_Acceptor_accept__accepted_p, ne_Acceptor_cut_promised_p, ne_Acceptor_cut_base_p, ne_Acceptor_cut__accepted_p, ne_Acceptor_replay_promised_p, ne_Acceptor_replay_base_p, ne_Acceptor_replay__accepted_p]
theorem fl_Acceptor_new {v0 v1 v2 : V} : putF ("_accepted" : Str) v2 (putF ("base" : Str) v1 (putF ("promised" : Str) v0 ([]))) = fl_Acceptor v0 v1 v2 := by unfold fl_Acceptor; simp [putF, ne_Acceptor_promised_base, ne_Acceptor_promised__accepted, ne_Acceptor_base_promised, ne_Acceptor_base__accepted, ne_Acceptor__accepted_promised, ne_Acceptor__accepted_base, ne_Acceptor_prepare_promised, ne_Acceptor_prepare_base, ne_Acceptor_prepare__accepted, ne_Acceptor_accept_promised, ne_Acceptor_accept_base, ne_Acceptor_accept__accepted, ne_Acceptor_cut_promised, ne_Acceptor_cut_base, ne_Acceptor_cut__accepted, ne_Acceptor_replay_promised, ne_Acceptor_replay_base, ne_Acceptor_replay__accepted, ne_Acceptor_promised_base_p, ne_Acceptor_promised__accepted_p, ne_Acceptor_base_promised_p, ne_Acceptor_base__accepted_p, ne_Acceptor__accepted_promised_p, ne_Acceptor__accepted_base_p, ne_Acceptor_prepare_promised_p, ne_Acceptor_prepare_base_p, ne_Acceptor_prepare__accepted_p, ne_Acceptor_accept_promised_p, ne_Acceptor_accept_base_p, ne_Acceptor_accept__accepted_p, ne_Acceptor_cut_promised_p, ne_Acceptor_cut_base_p, ne_Acceptor_cut__accepted_p, ne_Acceptor_replay_promised_p, ne_Acceptor_replay_base_p, ne_Acceptor_replay__accepted_p]

/-! the draws of a script: some numbers from 0 to 999 -/
def Drawn (ds : List Int) : Prop := ∀ d ∈ ds, 0 ≤ d ∧ d < 1000
theorem drawn_app {ds es : List Int} (h : Drawn ds) (g : Drawn es) : Drawn (ds ++ es) := fun d hd => (List.mem_append.mp hd).elim (h d) (g d)
theorem drawn_one {d : Int} (h : 0 ≤ d) (g : d < 1000) : Drawn [d] := fun e he => by rw [List.mem_singleton] at he; subst he; exact ⟨h, g⟩
def sp_draws (K : PySem.W.Frag) : Sp := fun vs H Q _ => ∃ (a : Addr) (ns : List Int), vs = [.ref a] ∧ SqL K H a (ns.map V.int) ∧
  ∀ (p : Addr) (H' : Hp) (ds : List Int), H p = none → Same H H' → H' p = some (.lst (ds.map V.int)) → Drawn ds → ds.length ≤ 1260 → Q (.ref p) H'
section
variable {P : Program} {w : World} {K : PySem.W.Frag} {mg : Str → Option Value} {base : Heap}
theorem ok__law_draws (T : TX K mg) : FnOk P w K mg base CX0 1 T.a__law_draws T.d__law_draws ["script"] (sp_draws K) := by
  refine T.F__law_draws.ok sc__law_draws (fun vs H Q E h => ?_) (fun cdv A outer s H vs Q E hr h => ?_)
  · obtain ⟨a, ns, rfl, _⟩ := h
    rfl
  · obtain ⟨a, ns, rfl, hS, q⟩ := h
    refine ⟨_, (pss_cons (ps_set (i := 1) sc__law_draws.nd rfl (Or.inl rfl) (pe_lst pa_nil))
      (pss_cons (ps_for PassesOwn.never rfl (pi_range1 (by rfl) T.n_range (pa_cons (pe_callB (call_min2 rfl) (by rfl) T.n_min (by decide +kernel) (pa_cons (pe_callB call_len_seq (by rfl) T.n_len PySem.boot_len (pa_cons (pv 0) pa_nil)) (pa_cons pe_int pa_nil))) pa_nil)) (pg_name (i := 2) sc__law_draws.nd rfl (Or.inl rfl))
        (pss_cons (ps_set (i := 3) sc__law_draws.nd rfl (Or.inl rfl) (pe_callB call_abs (by rfl) T.n_abs (by decide +kernel) (pa_cons (pe_ix ix_list (pv 0) (pv 2) (fun _ _ => rfl)) pa_nil)))
        (pss_one (ps_if (pt_cmpR op_ge (pv 3) (pe_op op_pow pe_int pe_int) (nomark _)) (pss_one (ps_for PassesOwn.never rfl (pi_range1 (by rfl) T.n_range (pa_cons pe_int pa_nil)) (pg_name (i := 4) sc__law_draws.nd rfl (Or.inl rfl))
            (pss_one (ps_if (pt_cmpR op_gt (pv 3) pe_int (nomark _)) (pss_cons (ps_expr (pe_bm PySem.F.plainAttrs_list PySem.F.slot_list_append PySem.F.type_list_append mt_append (pv 1) (pa_cons (pe_op op_mod (pv 3) pe_int) pa_nil)))
              (pss_one (ps_set (i := 3) sc__law_draws.nd rfl (Or.inl rfl) (pe_op op_fdiv (pv 3) pe_int)))) pss_nil)))) (pss_cons (ps_set (i := 5) sc__law_draws.nd rfl (Or.inl rfl) (pe_op op_mod (pe_callTy call_int1 (by rfl) T.n_int (by decide +kernel) (pa_cons (pe_op op_add (pe_op op_add (pe_op op_mul (pe_ix ix_list (pv 0) (pv 2) (fun _ _ => rfl)) pe_int) (pe_op op_mul (pv 2) pe_int)) pe_int) pa_nil)) pe_int))
          (pss_one (ps_for PassesOwn.never rfl (pi_range1 (by rfl) T.n_range (pa_cons pe_int pa_nil)) (pg_name (i := 4) sc__law_draws.nd rfl (Or.inl rfl))
            (pss_cons (ps_set (i := 5) sc__law_draws.nd rfl (Or.inl rfl) (pe_op op_mod (pe_callTy call_int1 (by rfl) T.n_int (by decide +kernel) (pa_cons (pe_op op_add (pe_op op_add (pe_op op_mul (pv 5) (pv 5)) (pe_op op_mul (pv 4) pe_int)) pe_int) pa_nil)) pe_int))
            (pss_one (ps_expr (pe_bm PySem.F.plainAttrs_list PySem.F.slot_list_append PySem.F.type_list_append mt_append (pv 1) (pa_cons (pe_op op_mod (pv 5) pe_int) pa_nil))))))))))))
      (pss_one (ps_ret (pv 1))))), ?_⟩
    refine ⟨Nat.zero_le _, fun o ho => ?_⟩
    have s1 := same_upd (o := .lst []) ho
    have hml : (ns.map V.int).length = ns.length := List.length_map _
    refine ⟨_, rfl, a, _, rfl, .inl (s1.seq hS), _, _, rfl, ?_⟩
    obtain ⟨m, hm, hm63, hmn⟩ : ∃ m : Nat, (if (63 : Int) < ((ns.map V.int).length : Int) then (63 : Int) else ((ns.map V.int).length : Int)) = (m : Int) ∧ m ≤ 63 ∧ m ≤ ns.length := by
      rw [hml]
      refine ⟨min ns.length 63, ?_, by omega, by omega⟩
      split <;> omega
    refine ⟨(m : Int), by rw [← hm], by omega, by omega, for_range (lo := 0) (n := _) (fun i σ H2 => ∃ (ds : List Int) (x2 x3 x4 x5 : Option V), σ = [some (.ref a), some (.ref o), x2, x3, x4, x5] ∧ Same H H2 ∧ H2 o = some (.lst (ds.map V.int)) ∧ Drawn ds ∧ ds.length ≤ 20 * i)
      ⟨[], none, none, none, none, rfl, s1, upd_same, (fun _ h => by cases h), Nat.le_refl _⟩ ?_ ?_⟩
    · rintro i σ H2 hi ⟨ds, x2, x3, x4, x5, rfl, g1, g2, g3, g4⟩
      have him : i < m := by omega
      have hg : ns[i]? = some ns[i] := List.getElem?_eq_getElem (by omega)
      have ha : atI (ns.map V.int) (0 + (i : Int)) = some (.int ns[i]) := by rw [Int.zero_add]; exact at_map hg
      generalize ns[i] = c at ha
      refine ⟨_, rfl, _, rfl, a, _, _, _, rfl, rfl, g1.seq hS, ha, _, rfl, ?_⟩
      dsimp only
      have hc : 0 ≤ (if c < 0 then -c else c) := by split <;> omega
      generalize (if c < 0 then -c else c) = cell at hc
      refine ⟨_, rfl, _, _, rfl, rfl, ⟨by decide, by decide, by decide⟩, _, _, rfl, rfl, _, rfl, ifd (fun hb => ?_) (fun hb => ?_)⟩
      · refine ⟨20, rfl, by decide, by decide, for_range (lo := 0) (n := 20) (fun j σ H3 => ∃ (es : List Int) (cell : Int) (x4 : Option V), 0 ≤ cell ∧ σ = [some (.ref a), some (.ref o), some (.int (0 + (i : Int))), some (.int cell), x4, x5] ∧ Same H H3 ∧ H3 o = some (.lst (es.map V.int)) ∧ Drawn es ∧ es.length ≤ 20 * i + j)
          ⟨ds, cell, x4, hc, rfl, g1, g2, g3, g4⟩ ?_ ?_⟩
        · rintro j σ H3 hj ⟨es, cell, x4, h0, rfl, k1, k2, k3, k4⟩
          refine ⟨_, rfl, _, _, rfl, rfl, _, rfl, ifd (fun hb => ?_) (fun hb => ?_)⟩
          · refine ⟨_, rfl, .inl ⟨rfl, _, sql k2⟩, _, rfl, _, _, rfl, rfl, (by show (0 : Int) < _; decide), o, _, _, rfl, rfl, k2, szl (by rw [List.length_map]; omega), ?_⟩
            refine ⟨_, rfl, _, _, rfl, rfl, ⟨by decide, by decide⟩, ?_⟩
            refine ⟨es ++ [cell % 1000], cell / 1000, some (.int (0 + (j : Int))), Int.ediv_nonneg h0 (by decide), rfl, same_put k1 ho, ?_, drawn_app k3 (drawn_one (Int.emod_nonneg _ (by decide)) (Int.emod_lt_of_pos _ (by decide))), by rw [List.length_append]; simp only [List.length_cons, List.length_nil]; omega⟩
            rw [upd_same, List.map_append]
            rfl
          · exact ⟨es, cell, some (.int (0 + (j : Int))), h0, rfl, k1, k2, k3, by omega⟩
        · rintro σ H3 ⟨es, cell, x4, h0, rfl, k1, k2, k3, k4⟩
          exact ⟨es, _, _, _, _, rfl, k1, k2, k3, by omega⟩
      · refine ⟨_, rfl, _, rfl, a, _, _, _, rfl, rfl, g1.seq hS, ha, _, _, rfl, rfl, .inr ⟨by decide, by decide⟩, _, rfl, _, _, rfl, rfl, .inr ⟨by decide, by decide⟩, _, _, rfl, rfl, _, _, rfl, rfl, .inl ⟨_, rfl, _, _, rfl, rfl, (by show (0 : Int) < _; decide), ?_⟩⟩
        dsimp only
        have hx := And.intro (Int.emod_nonneg (c * 48271 + (0 + (i : Int)) * 69621 + 12345) (show (2147483647 : Int) ≠ 0 by decide)) (Int.emod_lt_of_pos (c * 48271 + (0 + (i : Int)) * 69621 + 12345) (show (0 : Int) < 2147483647 by decide))
        generalize (c * 48271 + (0 + (i : Int)) * 69621 + 12345) % 2147483647 = mx at hx
        refine ⟨3, rfl, by decide, by decide, for_range (lo := 0) (n := 3) (fun j σ H3 => ∃ (es : List Int) (mx : Int) (x4 : Option V), (0 ≤ mx ∧ mx < 2147483647) ∧ σ = [some (.ref a), some (.ref o), some (.int (0 + (i : Int))), some (.int cell), x4, some (.int mx)] ∧ Same H H3 ∧ H3 o = some (.lst (es.map V.int)) ∧ Drawn es ∧ es.length ≤ 20 * i + j)
          ⟨ds, mx, x4, hx, rfl, g1, g2, g3, g4⟩ ?_ ?_⟩
        · rintro j σ H3 hj ⟨es, mx, x4, h0, rfl, k1, k2, k3, k4⟩
          refine ⟨_, rfl, _, rfl, _, _, rfl, rfl, .inl ⟨by omega, by omega⟩, _, rfl, _, _, rfl, rfl, .inr ⟨by decide, by decide⟩, _, _, rfl, rfl, _, _, rfl, rfl, .inl ⟨_, rfl, _, _, rfl, rfl, (by show (0 : Int) < _; decide), ?_⟩⟩
          refine ⟨_, rfl, .inl ⟨rfl, _, sql k2⟩, _, rfl, _, _, rfl, rfl, (by show (0 : Int) < _; decide), o, _, _, rfl, rfl, k2, szl (by rw [List.length_map]; omega), ?_⟩
          have h2 := And.intro (Int.emod_nonneg (mx * mx + (0 + (j : Int)) * 7919 + 17) (show (2147483629 : Int) ≠ 0 by decide)) (Int.emod_lt_of_pos (mx * mx + (0 + (j : Int)) * 7919 + 17) (show (0 : Int) < 2147483629 by decide))
          refine ⟨es ++ [(mx * mx + (0 + (j : Int)) * 7919 + 17) % 2147483629 % 1000], (mx * mx + (0 + (j : Int)) * 7919 + 17) % 2147483629, some (.int (0 + (j : Int))), ⟨h2.1, by omega⟩, rfl, same_put k1 ho, ?_, drawn_app k3 (drawn_one (Int.emod_nonneg _ (by decide)) (Int.emod_lt_of_pos _ (by decide))), by rw [List.length_append]; simp only [List.length_cons, List.length_nil]; omega⟩
          rw [upd_same, List.map_append]
          rfl
        · rintro σ H3 ⟨es, mx, x4, h0, rfl, k1, k2, k3, k4⟩
          exact ⟨es, _, _, _, _, rfl, k1, k2, k3, by omega⟩
    · rintro σ H2 ⟨ds, x2, x3, x4, x5, rfl, g1, g2, g3, g4⟩
      exact ⟨_, rfl, q o _ ds ho g1 g2 g3 (by omega)⟩
end
def Keep (H H' : Hp) : Prop := ∀ t xs, H t = some (.tup xs) → H' t = some (.tup xs)
def keyI : Key → Int | .inl s => s | _ => 0
def Ints (kvs : List (Key × V)) : Prop := ∀ kv ∈ kvs, ∃ s, kv.1 = Sum.inl s
def keepFrom (kvs : List (Key × V)) (b : Int) : List (Key × V) := (kvs.filter fun kv => match kv.1 with | .inl s => decide (b ≤ s) | _ => false)
theorem kv_at {kvs : List (Key × V)} {i : Nat} {k : Key} {v : V} (hi : Ints kvs) (h : kvs[i]? = some (k, v)) : ∃ s, k = Sum.inl s := by
  obtain ⟨s, e⟩ := hi _ (List.mem_of_getElem? h)
  exact ⟨s, e⟩
theorem val_ix : ∀ {kvs : List (Key × V)} {i : Nat} {k : Key} {v : V}, (kvs.map (·.1)).Nodup → kvs[i]? = some (k, v) → valV kvs k = some v := by
  intro kvs
  induction kvs with
  | nil => intro i k v _ h; simp at h
  | cons kv r ih =>
    intro i k v nd h
    cases i with
    | zero =>
      simp only [List.getElem?_cons_zero, Option.some.injEq] at h
      subst h
      exact valV_pos rfl
    | succ i =>
      simp only [List.getElem?_cons_succ] at h
      simp only [List.map_cons, List.nodup_cons] at nd
      obtain ⟨k0, v0⟩ := kv
      have hne : k0 ≠ k := fun z => nd.1 (by rw [z]; exact List.mem_map.mpr ⟨_, List.mem_of_getElem? h, rfl⟩)
      rw [valV_neg hne]
      exact ih nd.2 h
theorem keep_of {H H' : Hp} {p : Addr} (hp : ∀ xs, H p ≠ some (.tup xs)) (h : ∀ x o, H x = some o → x ≠ p → H' x = some o) : Keep H H' := fun t xs e => h t _ e fun z => hp xs (by rw [← z]; exact e)
theorem Keep.trans {G H J : Hp} (h : Keep G H) (k : Keep H J) : Keep G J := fun t xs e => k t xs (h t xs e)
theorem lift {H : Hp} {x y : Addr} {o u : HO} (h : H x = some o) (n : x ≠ y) : upd H y u x = some o := by rw [upd_ne n]; exact h
/-! an acceptor: an object with a dict from slots to pairs -/
structure AccAt (C : Addr) (H : Hp) (p d : Addr) (pr b : Int) (kvs : List (Key × V)) : Prop where
  ob : ∃ dx, H p = some (.ins C dx (fl_Acceptor (.int pr) (.int b) (.ref d)))
  dc : H d = some (.dK kvs)
def sp_ainit (C : Addr) : Sp := fun vs H Q _ => ∃ (p dx : Addr), vs = [.ref p] ∧ H p = some (.ins C dx []) ∧ ∀ (d : Addr) (H' : Hp), H d = none → AccAt C H' p d 0 0 [] → (∀ x o, H x = some o → x ≠ p → H' x = some o) → Q .non H'
def sp_isrec (K : PySem.W.Frag) : Sp := fun vs H Q _ => ∃ (r : Addr) (w0 w1 : Str) (n : Int) (xs : List V), vs = [.ref r, .str w1, .int n] ∧ SqT K H r (.str w0 :: xs) ∧ Q (.bl (decide (((xs.length + 1 : Nat) : Int) = n) && decide (w0 = w1))) H
def sp_accept (C : Addr) : Sp := fun vs H Q _ => ∃ (p d : Addr) (pr b x s : Int) (v : V) (kvs : List (Key × V)), vs = [.ref p, .int x, .int s, v] ∧ AccAt C H p d pr b kvs ∧ kvs.length ≤ 90000 ∧
  (x < pr → ∀ q H', H q = none → Same H H' → H' q = some (.tup [.str "refuse", .int pr]) → Q (.ref q) H') ∧
  (¬ x < pr → s < b → ∀ q H', H q = none → AccAt C H' p d x b kvs → H' q = some (.tup [.str "decided", .int b]) → (∀ y o, H y = some o → y ≠ p → H' y = some o) → Q (.ref q) H') ∧
  (¬ x < pr → ¬ s < b → ∀ t q H', H t = none → H q = none → AccAt C H' p d x b (putK kvs (Sum.inl s) (.ref t)) → H' t = some (.tup [.int x, v]) → H' q = some (.tup [.str "accepted", .int x, .int s]) → (∀ y o, H y = some o → y ≠ p → y ≠ d → H' y = some o) → Q (.ref q) H')
def sp_acut (C : Addr) : Sp := fun vs H Q _ => ∃ (p d : Addr) (pr b n : Int) (kvs : List (Key × V)), vs = [.ref p, .int n] ∧ AccAt C H p d pr b kvs ∧ kvs.length ≤ 90000 ∧ Ints kvs ∧ (kvs.map (·.1)).Nodup ∧
  (¬ b < n → Q .non H) ∧ (b < n → ∀ (d' : Addr) (H' : Hp), H d' = none → AccAt C H' p d' pr n (keepFrom kvs n) → (∀ x o, H x = some o → x ≠ p → H' x = some o) → Q .non H')
section
variable {P : Program} {w : World} {K : PySem.W.Frag} {mg : Str → Option Value} {base : Heap}
theorem ok_Acceptor___init__ (T : TX K mg) : FnOk P w K mg base CX0 1 T.a_Acceptor___init__ T.d_Acceptor___init__ ["self"] (sp_ainit T.a_Acceptor) := by
  refine T.F_Acceptor___init__.ok sc_Acceptor___init__ (fun vs H Q E h => ?_) (fun cdv A outer s H vs Q E hr h => ?_)
  · obtain ⟨p, dx, rfl, _⟩ := h
    rfl
  · obtain ⟨p, dx, rfl, hp, q⟩ := h
    refine ⟨_, (pss_cons (ps_fld (pv 0) pe_int rfl)
      (pss_cons (ps_fld (pv 0) pe_int rfl)
      (pss_one (ps_fld (pv 0) pe_dnewK rfl)))), ?_⟩
    refine ⟨_, rfl, p, T.a_Acceptor, dx, [], rfl, hp, T.K_Acceptor, T.na_Acceptor_promised, (by show 0 < 1000; decide), ?_⟩
    refine ⟨_, rfl, p, T.a_Acceptor, dx, _, rfl, upd_same, T.K_Acceptor, T.na_Acceptor_base, (by show 1 < 1000; decide), ?_⟩
    refine fun d hd => ⟨_, rfl, p, T.a_Acceptor, dx, putF "base" (V.int 0) (putF "promised" (V.int 0) []), rfl, ?_, T.K_Acceptor, T.na_Acceptor__accepted, ?_, ?_⟩
    · rw [upd_ne (fun z => by rw [← z, upd_same] at hd; cases hd), upd_same]
    · show (putF "base" (V.int 0) [(("promised" : Str), V.int 0)]).length < 1000
      unfold putF
      split <;> simp [putF]
    · have nd : d ≠ p := fun z => by rw [z, upd_same] at hd; cases hd
      have hd0 : H d = none := by rw [upd_ne nd, upd_ne nd] at hd; exact hd
      refine q d _ hd0 ⟨⟨dx, ?_⟩, ?_⟩ fun x o hx hxp => ?_
      · rw [upd_same, fl_Acceptor_new]
      · rw [upd_ne nd, upd_same]
      · rw [upd_ne hxp, upd_ne (ne_of_none hx hd0), upd_ne hxp, upd_ne hxp]
        exact hx
theorem ok__is_record (T : TX K mg) : FnOk P w K mg base CX0 1 T.a__is_record T.d__is_record ["record", "word", "size"] (sp_isrec K) := by
  refine T.F__is_record.ok sc__is_record (fun vs H Q E h => ?_) (fun cdv A outer s H vs Q E hr h => ?_)
  · obtain ⟨r, w0, w1, n, xs, rfl, _⟩ := h
    rfl
  · obtain ⟨r, w0, w1, n, xs, rfl, hS, q⟩ := h
    refine ⟨_, (pss_one (ps_ret (pe_and (pe_callB call_isi (by rfl) T.n_isinstance (by decide +kernel) (pa_cons (pv 0) (pa_cons (pe_bltn (v := .ty "tuple") (u := .type "tuple") (by rfl) T.n_tuple (by decide +kernel) rfl) pa_nil))) (pe_and (pe_cmpR op_eq (pe_callB call_len_seq (by rfl) T.n_len PySem.boot_len (pa_cons (pv 0) pa_nil)) (pv 2) (nomark _)) (pe_one (pe_cmpR op_eq (pe_ix ix_tup (pv 0) pe_int (fun _ _ => rfl)) (pv 1) (nomark _))))))), ?_⟩
    refine ⟨_, rfl, _, .ty "tuple", .type "tuple", .type "tuple", true, rfl, .ty _, tyx_t hS, kit_ty (by decide +kernel), true, rfl, ?_⟩
    refine ⟨_, rfl, r, _, rfl, .inr hS, _, rfl, rfl, _, rfl, ?_⟩
    have e1 : decide (V.int (((V.str w0 :: xs).length : Nat) : Int) = V.int n) = decide (((xs.length + 1 : Nat) : Int) = n) := by
      rw [dec_int, List.length_cons]
      rfl
    rw [e1]
    cases hz : decide (((xs.length + 1 : Nat) : Int) = n) with
    | false =>
      rw [hz] at q
      exact q
    | true =>
      rw [hz] at q
      refine (if_pos rfl).mpr ⟨_, rfl, r, _, 0, .str w0, rfl, rfl, hS, (show atI _ ((0 : Nat) : Int) = _ from atI_nat rfl), _, rfl, rfl, ?_⟩
      have e2 : decide (V.str w0 = V.str w1) = decide (w0 = w1) := by
        congr 1
        exact propext ⟨fun h => V.str.inj h, fun h => by rw [h]⟩
      rw [e2]
      exact q
theorem ok_Acceptor_accept (T : TX K mg) : FnOk P w K mg base CX0 1 T.a_Acceptor_accept T.d_Acceptor_accept ["self", "ballot", "slot", "value"] (sp_accept T.a_Acceptor) := by
  refine T.F_Acceptor_accept.ok sc_Acceptor_accept (fun vs H Q E h => ?_) (fun cdv A outer s H vs Q E hr h => ?_)
  · obtain ⟨p, d, pr, b, x, s, v, kvs, rfl, _⟩ := h
    rfl
  · obtain ⟨p, d, pr, b, x, s, v, kvs, rfl, ⟨⟨dx, hp⟩, hd⟩, hl, q0, q1, q2⟩ := h
    refine ⟨_, (pss_cons (ps_if (pt_cmpR op_lt (pv 1) (pe_fld (pv 0) rfl) (nomark _)) (pss_one (ps_ret (pe_tup (pa_cons pe_str (pa_cons (pe_fld (pv 0) rfl) pa_nil))))) pss_nil)
      (pss_cons (ps_fld (pv 0) (pv 1) rfl)
      (pss_cons (ps_if (pt_cmpR op_lt (pv 2) (pe_fld (pv 0) rfl) (nomark _)) (pss_one (ps_ret (pe_tup (pa_cons pe_str (pa_cons (pe_fld (pv 0) rfl) pa_nil))))) pss_nil)
      (pss_cons (ps_dput (hu_of hr) (pe_fld (pv 0) rfl) (pv 2) (pe_tup (pa_cons (pv 1) (pa_cons (pv 3) pa_nil))) rfl)
      (pss_one (ps_ret (pe_tup (pa_cons pe_str (pa_cons (pv 1) (pa_cons (pv 2) pa_nil)))))))))), ?_⟩
    have npd : p ≠ d := ne_of hp hd (by intro z; cases z)
    refine ⟨_, rfl, _, rfl, p, _, dx, _, _, rfl, hp, T.K_Acceptor, T.na_Acceptor_promised, fl_Acceptor_promised, _, _, rfl, rfl, _, rfl, ifd (fun h1 => ?_) (fun h1 => ?_)⟩
    · exact ⟨_, rfl, p, _, dx, _, _, rfl, hp, T.K_Acceptor, T.na_Acceptor_promised, fl_Acceptor_promised, (by show 2 ≤ sizeLine; decide), fun t ht => q0 h1 t _ ht (same_upd ht) upd_same⟩
    refine ⟨_, rfl, _, rfl, p, T.a_Acceptor, dx, _, rfl, hp, T.K_Acceptor, T.na_Acceptor_promised, (by show 3 < 1000; decide), ?_⟩
    rw [pf_Acceptor_promised]
    have hp1 : (upd H p (.ins T.a_Acceptor dx (fl_Acceptor (.int x) (.int b) (.ref d)))) p = some (.ins T.a_Acceptor dx (fl_Acceptor (.int x) (.int b) (.ref d))) := upd_same
    have hd1 : (upd H p (.ins T.a_Acceptor dx (fl_Acceptor (.int x) (.int b) (.ref d)))) d = some (.dK kvs) := by rw [upd_ne npd.symm]; exact hd
    have k1 : ∀ y o, H y = some o → y ≠ p → (upd H p (.ins T.a_Acceptor dx (fl_Acceptor (.int x) (.int b) (.ref d)))) y = some o := fun y o hy h => by rw [upd_ne h]; exact hy
    have f1 : ∀ y, (upd H p (.ins T.a_Acceptor dx (fl_Acceptor (.int x) (.int b) (.ref d)))) y = none → H y = none := fun y hy => by
      have ny : y ≠ p := fun z => by rw [z, upd_same] at hy; cases hy
      rw [upd_ne ny] at hy
      exact hy
    generalize upd H p (.ins T.a_Acceptor dx (fl_Acceptor (.int x) (.int b) (.ref d))) = G at hp1 hd1 k1 f1
    refine ⟨_, rfl, _, rfl, p, _, dx, _, _, rfl, hp1, T.K_Acceptor, T.na_Acceptor_base, fl_Acceptor_base, _, _, rfl, rfl, _, rfl, ifd (fun h2 => ?_) (fun h2 => ?_)⟩
    · exact ⟨_, rfl, p, _, dx, _, _, rfl, hp1, T.K_Acceptor, T.na_Acceptor_base, fl_Acceptor_base, (by show 2 ≤ sizeLine; decide), fun t ht => q1 h1 h2 t _ (f1 t ht) ⟨⟨dx, same_upd ht _ _ hp1⟩, same_upd ht _ _ hd1⟩ upd_same fun y o hy h => same_upd ht _ _ (k1 y o hy h)⟩
    · refine ⟨_, rfl, _, rfl, (by show 2 ≤ sizeLine; decide), fun t ht => ⟨_, rfl, p, _, dx, _, _, rfl, same_upd ht _ _ hp1, T.K_Acceptor, T.na_Acceptor__accepted, fl_Acceptor__accepted, _, rfl, d, _, rfl, DPut.k (k := Sum.inl s) (same_upd ht _ _ hd1) (szl (by omega)), ?_⟩⟩
      refine ⟨_, rfl, _, rfl, (by show 3 ≤ sizeLine; decide), fun u hu => ?_⟩
      have ntd : t ≠ d := (ne_of_none hd1 ht).symm
      have nud : u ≠ d := fun z => by rw [z, upd_same] at hu; cases hu
      rw [upd_ne nud] at hu
      have nut : u ≠ t := fun z => by rw [z, upd_same] at hu; cases hu
      rw [upd_ne nut] at hu
      have npu : p ≠ u := ne_of_none hp1 hu
      have npt : p ≠ t := ne_of_none hp1 ht
      refine q2 h1 h2 t u _ (f1 t ht) (f1 u hu) ⟨⟨dx, ?_⟩, ?_⟩ ?_ upd_same fun y o hy h3 h4 => ?_
      · rw [upd_ne npu, upd_ne npd, upd_ne npt]
        exact hp1
      · rw [upd_ne nud.symm, upd_same]
      · rw [upd_ne nut.symm, upd_ne ntd, upd_same]
      · have hy1 := k1 y o hy h3
        rw [upd_ne (ne_of_none hy1 hu), upd_ne h4, upd_ne (ne_of_none hy1 ht)]
        exact hy1
end
/-- what a record says -/
inductive Rec where
  | pro (x : Int)
  | acc (x s : Int) (v : V)
  | img (s : Int)
  | cut (s : Int)
def RecAt (K : PySem.W.Frag) (H : Hp) (r : Addr) : Rec → Prop
  | .pro x => H r = some (.tup [.str "promised", .int x])
  | .acc x s v => H r = some (.tup [.str "accepted", .int x, .int s, v])
  | .img s => ∃ y, H r = some (.tup [.str "image", .int s, y])
  | .cut s => H r = some (.tup [.str "cut", .int s])
def sp_replay (K : PySem.W.Frag) (C : Addr) : Sp := fun vs H Q _ => ∃ (p d r : Addr) (pr b : Int) (kvs : List (Key × V)) (rc : Rec), vs = [.ref p, .ref r] ∧ AccAt C H p d pr b kvs ∧ kvs.length ≤ 90000 ∧ RecAt K H r rc ∧
  (match rc with
  | .pro x => ∀ H', AccAt C H' p d (if x > pr then x else pr) b kvs → (∀ y o, H y = some o → y ≠ p → H' y = some o) → Q .non H'
  | .acc x s v => (s < b → ∀ H', AccAt C H' p d (if x > pr then x else pr) b kvs → (∀ y o, H y = some o → y ≠ p → H' y = some o) → Q .non H') ∧
      (¬ s < b → ∀ t H', H t = none → AccAt C H' p d (if x > pr then x else pr) b (putK kvs (Sum.inl s) (.ref t)) → H' t = some (.tup [.int x, v]) → (∀ y o, H y = some o → y ≠ p → y ≠ d → H' y = some o) → Q .non H')
  | .img _ => Q .non H
  | .cut _ => False)
section
variable {P : Program} {w : World} {K : PySem.W.Frag} {mg : Str → Option Value} {base : Heap}
theorem ok_Acceptor_cut (T : TX K mg) : FnOk P w K mg base CX0 1 T.a_Acceptor_cut T.d_Acceptor_cut ["self", "base"] (sp_acut T.a_Acceptor) := by
  refine T.F_Acceptor_cut.ok sc_Acceptor_cut (fun vs H Q E h => ?_) (fun cdv A outer s H vs Q E hr h => ?_)
  · obtain ⟨p, d, pr, b, n, kvs, rfl, _⟩ := h
    rfl
  · obtain ⟨p, d, pr, b, n, kvs, rfl, ⟨⟨dx, hp⟩, hd⟩, hl, hi, nd, q0, q1⟩ := h
    refine ⟨_, (pss_one (ps_if (pt_cmpR op_gt (pv 1) (pe_fld (pv 0) rfl) (nomark _)) (pss_cons (ps_fld (pv 0) (pv 1) rfl)
        (pss_one (ps_fld (pv 0) (pe_lock (pe_dc (own := [("slot", 2)]) (g := gName 2)  (by rfl) sc_Acceptor_cut.nd (pi_keys (pe_fld (pv 0) rfl)) (blkOk_by (own := [("slot", 2)]) (N := ["self", "base", "slot"]) (sc := defScope s_Acceptor_cut) (by decide +kernel)) (fun _ _ _ _ _ => pg_name (i := 2) sc_Acceptor_cut.nd rfl (Or.inl rfl)) (fun _ _ _ _ _ => pts_one (pt_cmpR op_ge (pv 2) (pv 1) (nomark _))) (fun _ _ _ _ _ => (pv 2)) (fun _ _ _ _ _ => (pe_dget (hu_of hr) (pe_fldK (K := K) rfl (pv 0) rfl) (pv 2) (fun _ _ => rfl))))) rfl))) pss_nil)), ?_⟩
    have npd : p ≠ d := ne_of hp hd (by intro z; cases z)
    refine ⟨_, rfl, _, rfl, p, _, dx, _, _, rfl, hp, T.K_Acceptor, T.na_Acceptor_base, fl_Acceptor_base, _, _, rfl, rfl, _, rfl, ifd (fun h1 => ?_) (fun h1 => q0 h1)⟩
    refine ⟨_, rfl, _, rfl, p, T.a_Acceptor, dx, _, rfl, hp, T.K_Acceptor, T.na_Acceptor_base, (by show 3 < 1000; decide), ?_⟩
    rw [pf_Acceptor_base]
    have hd2 : (upd H p (.ins T.a_Acceptor dx (fl_Acceptor (.int pr) (.int n) (.ref d)))) d = some (.dK kvs) := by rw [upd_ne npd.symm]; exact hd
    dsimp only [L2.sFld]
    refine dc_keys (s := 2) d kvs (fun k => decide (keyI k ≥ n)) (fun kv => kv.2) hd2 hl nd (fun od => ei_fld rfl (by rw [upd_ne npd, upd_same]) T.K_Acceptor T.na_Acceptor__accepted fl_Acceptor__accepted) ?_ (fun od i k v G Q' hk _ q => ?_) (fun od i k v G Q' hk hf s q => ?_) ?_ (fun D H' hD hs hl => ?_)
    · exact fun _ => rfl
    · obtain ⟨x, rfl⟩ := kv_at hi hk
      exact ⟨_, rfl, _, rfl, _, _, rfl, rfl, _, rfl, q⟩
    · obtain ⟨x, rfl⟩ := kv_at hi hk
      refine ⟨_, rfl, p, _, dx, _, _, rfl, s _ _ (by rw [upd_ne npd, upd_same]), T.K_Acceptor, T.na_Acceptor__accepted, fl_Acceptor__accepted, _, rfl, d, v, rfl, ?_, q⟩
      rw [← val_ix nd hk]
      exact .inl ⟨kvs, _, .inr ⟨od, s _ _ upd_same⟩, rfl, rfl⟩
    · intro i h
      rw [← h]
      exact Nat.lt_succ_self 2
    · have nDp : D ≠ p := fun z => by rw [z, upd_same] at hD; cases hD
      have hD0 : H D = none := by rw [upd_ne nDp] at hD; exact hD
      refine ⟨_, rfl, p, T.a_Acceptor, dx, _, rfl, hs _ _ upd_same, T.K_Acceptor, T.na_Acceptor__accepted, (by show 3 < 1000; decide), ?_⟩
      rw [pf_Acceptor__accepted]
      refine q1 h1 D _ hD0 ⟨⟨dx, upd_same⟩, ?_⟩ fun x o hx hxp => ?_
      · rw [upd_ne nDp, hl]
        have : (kvs.filter fun kv => decide (keyI kv.1 ≥ n)) = keepFrom kvs n := by
          unfold keepFrom
          apply List.filter_congr
          rintro ⟨k, v⟩ hm
          obtain ⟨x, rfl⟩ := hi _ hm
          rfl
        rw [this]
        simp
      · rw [upd_ne hxp]
        exact hs _ _ (by rw [upd_ne hxp]; exact hx)
theorem ok_Acceptor_replay (T : TX K mg) : FnOk P w K mg base CX0 2 T.a_Acceptor_replay T.d_Acceptor_replay ["self", "record"] (sp_replay K T.a_Acceptor) := by
  refine T.F_Acceptor_replay.ok sc_Acceptor_replay (fun vs H Q E h => ?_) (fun cdv A outer s H vs Q E hr h => ?_)
  · obtain ⟨p, d, r, pr, b, kvs, rc, rfl, _⟩ := h
    rfl
  · obtain ⟨p, d, r, pr, b, kvs, rc, rfl, ⟨⟨dx, hp⟩, hd⟩, hl, hr', q⟩ := h
    refine ⟨_, (pss_cons (ps_if (pt_val (pe_call (ok__is_record T) (hr.mono (by decide)) (by rfl) T.g__is_record T.F__is_record.kp T.b__is_record .nil pass0 (pa_cons (pv 1) (pa_cons pe_str (pa_cons pe_int pa_nil))))) (pss_one (ps_fld (pv 0) (pe_callB (call_max2 rfl) (by rfl) T.n_max (by decide +kernel) (pa_cons (pe_fld (pv 0) rfl) (pa_cons (pe_ix ix_tup (pv 1) pe_int (fun _ _ => rfl)) pa_nil))) rfl)) pss_nil)
      (pss_one (ps_if (pt_val (pe_call (ok__is_record T) (hr.mono (by decide)) (by rfl) T.g__is_record T.F__is_record.kp T.b__is_record .nil pass0 (pa_cons (pv 1) (pa_cons pe_str (pa_cons pe_int pa_nil))))) (pss_cons (ps_asg (pe_slice sl_tup (pv 1) (po_some pe_int) po_none) (pg_tup (by rfl) (pgs_cons (pg_name (i := 2) sc_Acceptor_replay.nd rfl (Or.inl rfl)) (pgs_cons (pg_name (i := 3) sc_Acceptor_replay.nd rfl (Or.inl rfl)) (pgs_cons (pg_name (i := 4) sc_Acceptor_replay.nd rfl (Or.inl rfl)) pgs_nil)))))
        (pss_cons (ps_fld (pv 0) (pe_callB (call_max2 rfl) (by rfl) T.n_max (by decide +kernel) (pa_cons (pe_fld (pv 0) rfl) (pa_cons (pv 2) pa_nil))) rfl)
        (pss_one (ps_if (pt_cmpR op_ge (pv 3) (pe_fld (pv 0) rfl) (nomark _)) (pss_one (ps_dput (hu_of hr) (pe_fld (pv 0) rfl) (pv 3) (pe_tup (pa_cons (pv 2) (pa_cons (pv 4) pa_nil))) rfl)) pss_nil)))) pss_nil))), ?_⟩
    have npd : p ≠ d := ne_of hp hd (by intro z; cases z)
    have kp : ∀ (u : HO) (y : Addr) (o : HO), H y = some o → y ≠ p → upd H p u y = some o := fun u y o hy hn => lift hy hn
    cases rc with
    | pro x =>
      have hr2 : H r = some (.tup [.str "promised", .int x]) := hr'
      have nrp : r ≠ p := ne_of hr2 hp (by intro z; cases z)
      refine ⟨_, rfl, r, "promised", "promised", 2, [.int x], rfl, sqt hr2, _, rfl, ifbt rfl ?_⟩
      refine ⟨_, rfl, p, _, dx, _, _, rfl, hp, T.K_Acceptor, T.na_Acceptor_promised, fl_Acceptor_promised, _, rfl, r, _, 1, .int x, rfl, rfl, sqt hr2, rfl, pr, x, rfl, _, rfl, p, T.a_Acceptor, dx, _, rfl, hp, T.K_Acceptor, T.na_Acceptor_promised, (by show 3 < 1000; decide), ?_⟩
      rw [pf_Acceptor_promised]
      refine ⟨_, rfl, r, "promised", "accepted", 4, [.int x], rfl, sqt (lift hr2 nrp), _, rfl, ifbf rfl ?_⟩
      exact q _ ⟨⟨dx, upd_same⟩, lift hd npd.symm⟩ (kp _)
    | img s0 =>
      obtain ⟨e, hr2⟩ : ∃ y, H r = some (.tup [.str "image", .int s0, y]) := hr'
      refine ⟨_, rfl, r, "image", "promised", 2, [.int s0, e], rfl, sqt hr2, _, rfl, ifbf rfl ?_⟩
      refine ⟨_, rfl, r, "image", "accepted", 4, [.int s0, e], rfl, sqt hr2, _, rfl, ifbf rfl ?_⟩
      exact q
    | cut s0 => exact q.elim
    | acc x s0 v =>
      have hr2 : H r = some (.tup [.str "accepted", .int x, .int s0, v]) := hr'
      have nrp : r ≠ p := ne_of hr2 hp (by intro z; cases z)
      obtain ⟨q0, q1⟩ := q
      refine ⟨_, rfl, r, "accepted", "promised", 2, [.int x, .int s0, v], rfl, sqt hr2, _, rfl, ifbf rfl ?_⟩
      refine ⟨_, rfl, r, "accepted", "accepted", 4, [.int x, .int s0, v], rfl, sqt hr2, _, rfl, ifbt rfl ?_⟩
      refine ⟨_, rfl, 1, rfl, r, _, rfl, sqt hr2, (fun z => absurd z.1 (show ¬ HT.sIx 4 0 (some 1) = 0 by decide)), fun c hc => ?_⟩
      have hcut : cutV [V.str "accepted", .int x, .int s0, v] (some 1) none = [.int x, .int s0, v] := rfl
      rw [hcut]
      refine ⟨c, _, rfl, sqt upd_same, rfl, _, _, rfl, _, _, rfl, _, _, rfl, rfl, ?_⟩
      have hp1 := same_upd (o := .tup [.int x, .int s0, v]) hc _ _ hp
      have hd1 := same_upd (o := .tup [.int x, .int s0, v]) hc _ _ hd
      have s1 : Same H (upd H c (.tup [.int x, .int s0, v])) := same_upd hc
      have f1 : ∀ y, (upd H c (.tup [.int x, .int s0, v])) y = none → H y = none := fun y hy => s1.free hy
      generalize upd H c (.tup [.int x, .int s0, v]) = G at hp1 hd1 s1 f1
      refine ⟨_, rfl, p, _, dx, _, _, rfl, hp1, T.K_Acceptor, T.na_Acceptor_promised, fl_Acceptor_promised, _, rfl, pr, x, rfl, _, rfl, p, T.a_Acceptor, dx, _, rfl, hp1, T.K_Acceptor, T.na_Acceptor_promised, (by show 3 < 1000; decide), ?_⟩
      rw [pf_Acceptor_promised]
      have hp2 : (upd G p (.ins T.a_Acceptor dx (fl_Acceptor (.int (if x > pr then x else pr)) (.int b) (.ref d)))) p = some (.ins T.a_Acceptor dx (fl_Acceptor (.int (if x > pr then x else pr)) (.int b) (.ref d))) := upd_same
      have hd2 : (upd G p (.ins T.a_Acceptor dx (fl_Acceptor (.int (if x > pr then x else pr)) (.int b) (.ref d)))) d = some (.dK kvs) := lift hd1 npd.symm
      have k2 : ∀ y o, H y = some o → y ≠ p → (upd G p (.ins T.a_Acceptor dx (fl_Acceptor (.int (if x > pr then x else pr)) (.int b) (.ref d)))) y = some o := fun y o hy hn => lift (s1 _ _ hy) hn
      have f2 : ∀ y, (upd G p (.ins T.a_Acceptor dx (fl_Acceptor (.int (if x > pr then x else pr)) (.int b) (.ref d)))) y = none → H y = none := fun y hy => by
        have ny : y ≠ p := fun z => by rw [z, upd_same] at hy; cases hy
        rw [upd_ne ny] at hy
        exact f1 y hy
      generalize upd G p (.ins T.a_Acceptor dx (fl_Acceptor (.int (if x > pr then x else pr)) (.int b) (.ref d))) = J at hp2 hd2 k2 f2
      refine ⟨_, rfl, _, rfl, p, _, dx, _, _, rfl, hp2, T.K_Acceptor, T.na_Acceptor_base, fl_Acceptor_base, _, _, rfl, rfl, _, rfl, ifd (fun h1 => ?_) (fun h1 => ?_)⟩
      · refine ⟨_, rfl, _, rfl, (by show 2 ≤ sizeLine; decide), fun t ht => ⟨_, rfl, p, _, dx, _, _, rfl, same_upd ht _ _ hp2, T.K_Acceptor, T.na_Acceptor__accepted, fl_Acceptor__accepted, _, rfl, d, _, rfl, DPut.k (k := Sum.inl s0) (same_upd ht _ _ hd2) (szl (by omega)), ?_⟩⟩
        have ntd : t ≠ d := (ne_of_none hd2 ht).symm
        refine q1 (by omega) t _ (f2 t ht) ⟨⟨dx, lift (lift hp2 (ne_of_none hp2 ht)) npd⟩, upd_same⟩ ?_ fun y o hy h3 h4 => lift (lift (k2 y o hy h3) (ne_of_none (k2 y o hy h3) ht)) h4
        rw [upd_ne ntd, upd_same]
      · exact q0 (by omega) _ ⟨⟨dx, hp2⟩, hd2⟩ k2
end
abbrev Ent := Int × Int × V
def EntAt (H : Hp) (x : V) (e : Ent) : Prop := ∃ t, x = .ref t ∧ H t = some (.tup [.int e.1, .int e.2.1, e.2.2])
def MA (H : Hp) : List V → List Ent → Prop
  | [], [] => True
  | x :: xs, e :: es => EntAt H x e ∧ MA H xs es
  | _, _ => False
def KA (H : Hp) : List (Key × V) → List Ent → Prop
  | [], [] => True
  | (k, v) :: r, e :: es => k = Sum.inl e.1 ∧ (∃ t, v = .ref t ∧ H t = some (.tup [.int e.2.1, e.2.2])) ∧ KA H r es
  | _, _ => False
def lk (es : List Ent) (s : Int) : Option Ent := es.find? fun e => decide (e.1 = s)
def rowG (es : List Ent) (first s : Int) : Option Ent := if first ≤ s then lk es s else none
def rowsOf (es : List Ent) (first : Int) : List Ent := (List.range 40).filterMap fun (s : Nat) => rowG es first s
theorem ea_keep {H H' : Hp} (h : Keep H H') {x : V} {e : Ent} : EntAt H x e → EntAt H' x e := fun ⟨t, q, g⟩ => ⟨t, q, h _ _ g⟩
theorem ma_keep {H H' : Hp} (h : Keep H H') : ∀ {xs : List V} {es : List Ent}, MA H xs es → MA H' xs es
  | [], [], _ => trivial
  | x :: xs, e :: es, ⟨q, g⟩ => ⟨ea_keep h q, ma_keep h g⟩
theorem ka_keep {H H' : Hp} (h : Keep H H') : ∀ {kvs : List (Key × V)} {es : List Ent}, KA H kvs es → KA H' kvs es
  | [], [], _ => trivial
  | (k, v) :: r, e :: es, ⟨q, ⟨t, g1, g2⟩, g⟩ => ⟨q, ⟨t, g1, h _ _ g2⟩, ka_keep h g⟩
theorem ma_app {H : Hp} : ∀ {xs ys : List V} {es fs : List Ent}, MA H xs es → MA H ys fs → MA H (xs ++ ys) (es ++ fs)
  | [], _, [], _, _, h => h
  | x :: xs, _, e :: es, _, ⟨q, g⟩, h => ⟨q, ma_app g h⟩
theorem ma_len {H : Hp} : ∀ {xs : List V} {es : List Ent}, MA H xs es → xs.length = es.length
  | [], [], _ => rfl
  | x :: xs, e :: es, ⟨q, g⟩ => by simp [ma_len g]
theorem ma_at {H : Hp} : ∀ {xs : List V} {es : List Ent} {i : Nat} {x : V}, MA H xs es → xs[i]? = some x → ∃ e, es[i]? = some e ∧ EntAt H x e
  | x :: xs, e :: es, 0, y, ⟨q, g⟩, h => ⟨e, rfl, by rw [← Option.some.inj h]; exact q⟩
  | x :: xs, e :: es, i + 1, y, ⟨q, g⟩, h => by
    obtain ⟨e', h1, h2⟩ := ma_at (i := i) g (by simpa using h)
    exact ⟨e', by simpa using h1, h2⟩
theorem ka_len {H : Hp} : ∀ {kvs : List (Key × V)} {es : List Ent}, KA H kvs es → kvs.length = es.length
  | [], [], _ => rfl
  | (k, v) :: r, e :: es, ⟨q, _, g⟩ => by simp [ka_len g]
theorem ka_keys {H : Hp} : ∀ {kvs : List (Key × V)} {es : List Ent}, KA H kvs es → kvs.map (·.1) = (es.map (·.1)).map Sum.inl
  | [], [], _ => rfl
  | (k, v) :: r, e :: es, ⟨q, _, g⟩ => by simp [q, ka_keys g]
theorem ka_ints {H : Hp} {kvs : List (Key × V)} {es : List Ent} (h : KA H kvs es) : Ints kvs := fun kv hm => by
  have : kv.1 ∈ kvs.map (·.1) := List.mem_map.mpr ⟨kv, hm, rfl⟩
  rw [ka_keys h] at this
  obtain ⟨s, _, e⟩ := List.mem_map.mp this
  exact ⟨s, e.symm⟩
theorem ka_nd {H : Hp} {kvs : List (Key × V)} {es : List Ent} (h : KA H kvs es) (nd : (es.map (·.1)).Nodup) : (kvs.map (·.1)).Nodup := by
  rw [ka_keys h]
  exact List.Pairwise.map _ (fun a b hab z => hab (Sum.inl.inj z)) nd
theorem ka_val {H : Hp} {s : Int} : ∀ {kvs : List (Key × V)} {es : List Ent}, KA H kvs es → (lk es s = none ∧ valV kvs (Sum.inl s) = none) ∨ ∃ e t, lk es s = some e ∧ valV kvs (Sum.inl s) = some (.ref t) ∧ H t = some (.tup [.int e.2.1, e.2.2]) ∧ e.1 = s
  | [], [], _ => .inl ⟨rfl, rfl⟩
  | (k, v) :: r, e :: es, ⟨q, ⟨t, g1, g2⟩, g⟩ => by
    subst q
    by_cases hs : e.1 = s
    · exact .inr ⟨e, t, by unfold lk; rw [List.find?_cons_of_pos (by simpa using hs)], by rw [valV_pos (by rw [hs]), g1], g2, hs⟩
    · have hne : (Sum.inl e.1 : Key) ≠ Sum.inl s := fun z => hs (Sum.inl.inj z)
      have e1 : lk (e :: es) s = lk es s := by
        unfold lk
        rw [List.find?_cons_of_neg (by simpa using hs)]
      rw [e1, valV_neg hne]
      exact ka_val g
theorem lk_some {es : List Ent} {s : Int} {e : Ent} (h : lk es s = some e) : e ∈ es ∧ e.1 = s := ⟨List.mem_of_find?_eq_some h, by simpa using List.find?_some h⟩
theorem lk_none {es : List Ent} {s : Int} (h : lk es s = none) : ∀ e ∈ es, e.1 ≠ s := fun e he => by simpa using List.find?_eq_none.mp h e he
theorem nd_inj : ∀ {es : List Ent}, (es.map (·.1)).Nodup → ∀ a ∈ es, ∀ b ∈ es, a.1 = b.1 → a = b := by
  intro es
  induction es with
  | nil => intro _ a ha; cases ha
  | cons e r ih =>
    intro nd a ha b hb h
    simp only [List.map_cons, List.nodup_cons] at nd
    rcases List.mem_cons.mp ha with e1 | ha' <;> rcases List.mem_cons.mp hb with e2 | hb'
    · rw [e1, e2]
    · exact absurd (List.mem_map.mpr ⟨b, hb', by rw [← h, e1]⟩) nd.1
    · exact absurd (List.mem_map.mpr ⟨a, ha', by rw [h, e2]⟩) nd.1
    · exact ih nd.2 a ha' b hb' h
theorem lk_of {es : List Ent} (nd : (es.map (·.1)).Nodup) {e : Ent} (h : e ∈ es) : lk es e.1 = some e := by
  cases hl : lk es e.1 with
  | none => exact absurd rfl (lk_none hl e h)
  | some f =>
    obtain ⟨h1, h2⟩ := lk_some hl
    rw [nd_inj nd f h1 e h h2]
theorem lk_perm {es fs : List Ent} (p : es.Perm fs) (nd : (es.map (·.1)).Nodup) (s : Int) : lk es s = lk fs s := by
  have nd2 : (fs.map (·.1)).Nodup := (p.map _).nodup_iff.mp nd
  cases hl : lk es s with
  | none =>
    cases hf : lk fs s with
    | none => rfl
    | some f =>
      obtain ⟨h1, h2⟩ := lk_some hf
      exact absurd h2 (lk_none hl f (p.mem_iff.mpr h1))
  | some e =>
    obtain ⟨h1, h2⟩ := lk_some hl
    subst h2
    exact (lk_of nd2 (p.mem_iff.mp h1)).symm
theorem rows_perm {es fs : List Ent} (p : es.Perm fs) (nd : (es.map (·.1)).Nodup) (first : Int) : rowsOf es first = rowsOf fs first := by
  unfold rowsOf
  congr 1
  funext s
  unfold rowG
  rw [lk_perm p nd]
theorem ssort_ext : ∀ {xs ys : List Int}, xs.Pairwise (· < ·) → ys.Pairwise (· < ·) → (∀ z, z ∈ xs ↔ z ∈ ys) → xs = ys
  | [], [], _, _, _ => rfl
  | [], y :: ys, _, _, h => absurd ((h y).mpr List.mem_cons_self) (by simp)
  | x :: xs, [], _, _, h => absurd ((h x).mp List.mem_cons_self) (by simp)
  | x :: xs, y :: ys, hx, hy, h => by
    rw [List.pairwise_cons] at hx hy
    have e : x = y := by
      rcases List.mem_cons.mp ((h x).mp List.mem_cons_self) with e | h1
      · exact e
      rcases List.mem_cons.mp ((h y).mpr List.mem_cons_self) with e | h2
      · exact e.symm
      have := hx.1 y h2
      have := hy.1 x h1
      omega
    subst e
    congr 1
    refine ssort_ext hx.2 hy.2 fun z => ⟨fun hz => ?_, fun hz => ?_⟩
    · have := hx.1 z hz
      rcases List.mem_cons.mp ((h z).mp (List.mem_cons_of_mem _ hz)) with e | h2
      · omega
      · exact h2
    · have := hy.1 z hz
      rcases List.mem_cons.mp ((h z).mpr (List.mem_cons_of_mem _ hz)) with e | h2
      · omega
      · exact h2
theorem rows_sorted {es : List Ent} {ys : List Int} {first : Int} (nd : (es.map (·.1)).Nodup) (hr : ∀ e ∈ es, 0 ≤ e.1 ∧ e.1 < 40) (hp : ys.Perm (es.map (·.1))) (hs : ys.Pairwise (· ≤ ·)) : ys.filterMap (rowG es first) = rowsOf es first := by
  have ndy : ys.Nodup := hp.nodup_iff.mpr nd
  have hlt : ys.Pairwise (· < ·) := by
    have := hs.and ndy
    exact this.imp fun {a b} ⟨h1, h2⟩ => by omega
  have hmem : ∀ z, z ∈ ys ↔ ∃ e ∈ es, e.1 = z := fun z => by rw [hp.mem_iff, List.mem_map]
  have e1 : ys = ((List.range 40).filter fun (n : Nat) => decide ((n : Int) ∈ ys)).map fun (n : Nat) => (n : Int) := by
    refine ssort_ext hlt ?_ fun z => ⟨fun hz => ?_, fun hz => ?_⟩
    · refine List.Pairwise.map _ (fun a b (h : a < b) => by omega) (List.Pairwise.filter _ List.pairwise_lt_range)
    · obtain ⟨e, he, hez⟩ := (hmem z).mp hz
      have := hr e he
      refine List.mem_map.mpr ⟨z.toNat, List.mem_filter.mpr ⟨List.mem_range.mpr (by omega), ?_⟩, by omega⟩
      have : ((z.toNat : Nat) : Int) = z := by omega
      rw [this]
      exact decide_eq_true hz
    · obtain ⟨n, hn, e⟩ := List.mem_map.mp hz
      rw [← e]
      exact of_decide_eq_true (List.mem_filter.mp hn).2
  have e2 : ys.filterMap (rowG es first) = (((List.range 40).filter fun (n : Nat) => decide ((n : Int) ∈ ys)).map fun (n : Nat) => (n : Int)).filterMap (rowG es first) := congrArg (List.filterMap (rowG es first)) e1
  rw [e2, List.filterMap_map, List.filterMap_filter]
  unfold rowsOf
  congr 1
  funext n
  by_cases hm : (n : Int) ∈ ys
  · simp [hm]
  · simp only [hm, decide_false, Bool.false_eq_true, if_false]
    have : lk es (n : Int) = none := by
      cases hl : lk es (n : Int) with
      | none => rfl
      | some e =>
        obtain ⟨h1, h2⟩ := lk_some hl
        exact absurd ((hmem _).mpr ⟨e, h1, h2⟩) hm
    unfold rowG
    rw [this]
    split <;> rfl
def sp_prepare (C : Addr) : Sp := fun vs H Q _ => ∃ (p d : Addr) (pr b x f : Int) (kvs : List (Key × V)) (es : List Ent), vs = [.ref p, .int x, .int f] ∧ AccAt C H p d pr b kvs ∧ KA H kvs es ∧ es.length < 64 ∧ (es.map (·.1)).Nodup ∧ (∀ e ∈ es, 0 ≤ e.1 ∧ e.1 < 40) ∧
  (x < pr → ∀ q H', H q = none → Same H H' → H' q = some (.tup [.str "refuse", .int pr]) → Q (.ref q) H') ∧
  (¬ x < pr → ∀ q r xs H', H q = none → AccAt C H' p d x b kvs → H' q = some (.tup [.str "promise", .int x, .int b, .ref r]) → H' r = some (.tup xs) → MA H' xs (rowsOf es f) → (∀ y o, H y = some o → y ≠ p → H' y = some o) → Q (.ref q) H')
def sp_rows : Sp := fun vs H Q _ => ∃ (a : Addr) (f : Int) (xs : List V) (es : List Ent), vs = [.ref a, .int f] ∧ H a = some (.lst xs) ∧ MA H xs es ∧ (es.map (·.1)).Nodup ∧ es.length ≤ 1000 ∧
  ∀ q ys H', H q = none → Same H H' → H' q = some (.tup ys) → MA H' ys (rowsOf es f) → Q (.ref q) H'
theorem lk_take {es : List Ent} {j : Nat} {e : Ent} (nd : (es.map (·.1)).Nodup) (h : es[j]? = some e) : lk (es.take (j + 1)) e.1 = some e ∧ lk (es.take j) e.1 = none := by
  refine ⟨?_, ?_⟩
  · refine lk_of ?_ ?_
    · exact ((List.take_sublist _ _).map _).nodup nd
    · rw [take_more h]
      exact List.mem_append_right _ List.mem_cons_self
  · cases hl : lk (es.take j) e.1 with
    | none => rfl
    | some f =>
      obtain ⟨h1, h2⟩ := lk_some hl
      exact absurd h2 (nd_ne (l := es) nd h f h1)
theorem lk_skip {es : List Ent} {j : Nat} {e : Ent} {s : Int} (h : es[j]? = some e) (hs : e.1 ≠ s) : lk (es.take (j + 1)) s = lk (es.take j) s := by
  rw [take_more h]
  unfold lk
  rw [List.find?_append, List.find?_cons_of_neg (by simpa using hs)]
  cases List.find? (fun e => decide (e.1 = s)) (es.take j) <;> rfl
theorem take_fm {α β : Type} {l : List α} {i : Nat} {x : α} (f : α → Option β) (h : l[i]? = some x) : (l.take (i + 1)).filterMap f = (l.take i).filterMap f ++ (f x).toList := by
  rw [take_more h, List.filterMap_append]
  cases e : f x <;> simp [e]
section
variable {P : Program} {w : World} {K : PySem.W.Frag} {mg : Str → Option Value} {base : Heap}
theorem ok_Acceptor_prepare (T : TX K mg) : FnOk P w K mg base CX0 1 T.a_Acceptor_prepare T.d_Acceptor_prepare ["self", "ballot", "first"] (sp_prepare T.a_Acceptor) := by
  refine T.F_Acceptor_prepare.ok sc_Acceptor_prepare (fun vs H Q E h => ?_) (fun cdv A outer s H vs Q E hr h => ?_)
  · obtain ⟨p, d, pr, b, x, f, kvs, es, rfl, _⟩ := h
    rfl
  · obtain ⟨p, d, pr, b, x, f, kvs, es, rfl, ⟨⟨dx, hp⟩, hd⟩, hk, hl, nd, hr40, q0, q1⟩ := h
    refine ⟨_, (pss_cons (ps_if (pt_cmpR op_lt (pv 1) (pe_fld (pv 0) rfl) (nomark _)) (pss_one (ps_ret (pe_tup (pa_cons pe_str (pa_cons (pe_fld (pv 0) rfl) pa_nil))))) pss_nil)
      (pss_cons (ps_fld (pv 0) (pv 1) rfl)
      (pss_cons (ps_setLc (i := 3) (own := [("slot", 4)]) (g := gName 4)  (by rfl) sc_Acceptor_prepare.nd rfl rfl (sw_true rfl rfl rfl (by decide +kernel)) (pi_list (pe_callB (call_sortedDI rfl) (by rfl) T.n_sorted (by decide +kernel) (pa_cons (pe_fld (pv 0) rfl) pa_nil))) (blkOk_by (own := [("slot", 4)]) (N := ["self", "ballot", "first", "rows", "slot"]) (sc := defScope s_Acceptor_prepare) (by decide +kernel)) (fun _ _ _ _ _ => pg_name (i := 4) sc_Acceptor_prepare.nd rfl (Or.inl rfl)) (fun _ _ _ _ _ => pts_one (pt_cmpR op_ge (pv 4) (pv 2) (nomark _))) (fun _ _ _ _ _ => (pe_op (opK_catA (K := K) rfl) (pe_tup (pa_cons (pv 4) pa_nil)) (pe_dget (hu_of hr) (pe_fldK (K := K) rfl (pv 0) rfl) (pv 4) (fun _ _ => rfl)))))
      (pss_one (ps_ret (pe_tup (pa_cons pe_str (pa_cons (pv 1) (pa_cons (pe_fld (pv 0) rfl) (pa_cons (pe_callTy call_tuple_of (by rfl) T.n_tuple (by decide +kernel) (pa_cons (pv 3) pa_nil)) pa_nil)))))))))), ?_⟩
    have npd : p ≠ d := ne_of hp hd (by intro z; cases z)
    refine ⟨_, rfl, _, rfl, p, _, dx, _, _, rfl, hp, T.K_Acceptor, T.na_Acceptor_promised, fl_Acceptor_promised, _, _, rfl, rfl, _, rfl, ifd (fun h1 => ?_) (fun h1 => ?_)⟩
    · exact ⟨_, rfl, p, _, dx, _, _, rfl, hp, T.K_Acceptor, T.na_Acceptor_promised, fl_Acceptor_promised, (by show 2 ≤ sizeLine; decide), fun t ht => q0 h1 t _ ht (same_upd ht) upd_same⟩
    refine ⟨_, rfl, _, rfl, p, T.a_Acceptor, dx, _, rfl, hp, T.K_Acceptor, T.na_Acceptor_promised, (by show 3 < 1000; decide), ?_⟩
    rw [pf_Acceptor_promised]
    have hp1 : (upd H p (.ins T.a_Acceptor dx (fl_Acceptor (.int x) (.int b) (.ref d)))) p = some (.ins T.a_Acceptor dx (fl_Acceptor (.int x) (.int b) (.ref d))) := upd_same
    have hd1 : (upd H p (.ins T.a_Acceptor dx (fl_Acceptor (.int x) (.int b) (.ref d)))) d = some (.dK kvs) := by rw [upd_ne npd.symm]; exact hd
    have k1 : ∀ y o, H y = some o → y ≠ p → (upd H p (.ins T.a_Acceptor dx (fl_Acceptor (.int x) (.int b) (.ref d)))) y = some o := fun y o hy h => by rw [upd_ne h]; exact hy
    have kk1 := keep_of (fun xs => by rw [hp]; intro z; cases z) k1
    have f1 : ∀ y, (upd H p (.ins T.a_Acceptor dx (fl_Acceptor (.int x) (.int b) (.ref d)))) y = none → H y = none := fun y hy => by
      have ny : y ≠ p := fun z => by rw [z, upd_same] at hy; cases hy
      rw [upd_ne ny] at hy
      exact hy
    generalize upd H p (.ins T.a_Acceptor dx (fl_Acceptor (.int x) (.int b) (.ref d))) = G at hp1 hd1 k1 f1 kk1
    have hk1 := ka_keep kk1 hk
    have hkeys : kvs.map (·.1) = (es.map (·.1)).map Sum.inl := ka_keys hk
    refine ⟨_, rfl, p, _, dx, _, _, rfl, hp1, T.K_Acceptor, T.na_Acceptor__accepted, fl_Acceptor__accepted, d, kvs, es.map (·.1), rfl, .inl hd1, hkeys, by rw [List.length_map]; exact hl, fun ys l hys hso hl0 => ?_⟩
    refine ⟨l, rfl, ⟨_, sql upd_same⟩, fun D hD => ?_⟩
    have nDl : D ≠ l := fun z => by rw [z, upd_same] at hD; cases hD
    rw [upd_ne nDl] at hD
    have hyl : ys.length < 64 := by rw [hys.length_eq, List.length_map]; exact hl
    have e0 : (ys.map V.int).length = ys.length := List.length_map _
    refine lc_list (K := K) (a := l) (xs := ys.map V.int) (fun i J => Same G J ∧ J l = some (.lst (ys.map V.int)) ∧ ∃ acc, J D = some (.lst acc) ∧ MA J acc ((ys.take i).filterMap (rowG es f)))
      ⟨(same_upd hl0).trans (same_upd (by rw [upd_ne nDl]; exact hD)), by rw [upd_ne nDl.symm, upd_same], [], upd_same, trivial⟩ (fun i J _ h => sql h.2.1) (fun i y J hy hJ => ?_) (fun J hJ => ?_)
    · obtain ⟨sJ, hlJ, acc, hDJ, hmJ⟩ := hJ
      obtain ⟨s, hs, rfl⟩ := map_at hy
      have hfm := take_fm (rowG es f) hs
      refine ⟨rfl, _, rfl, _, rfl, _, _, rfl, rfl, _, rfl, ifd (fun hc => ?_) (fun hc => ?_)⟩
      · have hse : s ∈ es.map (·.1) := hys.mem_iff.mp (List.mem_of_getElem? hs)
        obtain ⟨e, he, hes⟩ := List.mem_map.mp hse
        have hle : lk es s = some e := by rw [← hes]; exact lk_of nd he
        rcases ka_val (s := s) (ka_keep (fun t ts h => sJ t _ h) hk1) with ⟨h2, _⟩ | ⟨e', t, h2, h3, h4, h5⟩
        · rw [h2] at hle
          cases hle
        rw [h2] at hle
        obtain rfl := Option.some.inj hle
        have hg : rowG es f s = some e' := by unfold rowG; rw [if_pos hc]; exact h2
        rw [hg] at hfm
        refine ⟨_, rfl, (by show 1 ≤ sizeLine; decide), fun u hu => ?_⟩
        refine ⟨_, rfl, p, _, dx, _, _, rfl, same_upd hu _ _ (sJ _ _ hp1), T.K_Acceptor, T.na_Acceptor__accepted, fl_Acceptor__accepted, _, rfl, d, .ref t, rfl, by rw [← h3]; exact DGet.k (k := Sum.inl s) (same_upd hu _ _ (sJ _ _ hd1)), ?_⟩
        refine ⟨u, t, _, _, rfl, rfl, sqt upd_same, sqt (same_upd hu _ _ h4), (by show 3 ≤ sizeLine; decide), (fun z => by cases z), (fun _ z => by cases z), fun _ _ u2 hu2 => ?_⟩
        have n2u : u2 ≠ u := fun z => by rw [z, upd_same] at hu2; cases hu2
        rw [upd_ne n2u] at hu2
        have nDu : D ≠ u := ne_of_none hDJ hu
        have nDu2 : D ≠ u2 := ne_of_none hDJ hu2
        have hal : acc.length ≤ 64 := by
          rw [ma_len hmJ]
          exact Nat.le_trans (List.length_filterMap_le _ _) (by rw [List.length_take]; omega)
        have nlD : l ≠ D := nDl.symm
        refine ⟨acc, lift (lift hDJ nDu) nDu2, szl (by omega), fun y o hyo => ?_, lift (lift (lift hlJ (ne_of_none hlJ hu)) (ne_of_none hlJ hu2)) nlD, acc ++ [.ref u2], upd_same, ?_⟩
        · exact lift (lift (lift (sJ y o hyo) (ne_of_none (sJ y o hyo) hu)) (ne_of_none (sJ y o hyo) hu2)) (ne_of_none hyo hD)
        · rw [hfm]
          have kk : ∀ x ts, J x = some (.tup ts) → (upd (upd (upd J u (.tup [.int s])) u2 (.tup ([.int s] ++ [.int e'.2.1, e'.2.2]))) D (.lst (acc ++ [.ref u2]))) x = some (.tup ts) := fun x ts h => lift (lift (lift h (ne_of_none h hu)) (ne_of_none h hu2)) (ne_of h hDJ (by intro z; cases z))
          refine ma_app (ma_keep kk hmJ) ⟨⟨u2, rfl, ?_⟩, trivial⟩
          rw [upd_ne nDu2.symm, upd_same, h5]
          rfl
      · have hg : rowG es f s = none := by unfold rowG; rw [if_neg hc]
        rw [hg] at hfm
        refine ⟨sJ, hlJ, acc, hDJ, ?_⟩
        rw [hfm]
        simpa using hmJ
    · obtain ⟨sJ, hlJ, acc, hDJ, hmJ⟩ := hJ
      rw [e0, List.take_length, rows_sorted nd hr40 hys hso] at hmJ
      refine ⟨_, rfl, _, rfl, p, _, dx, _, _, rfl, sJ _ _ hp1, T.K_Acceptor, T.na_Acceptor_base, fl_Acceptor_base, _, rfl, D, _, rfl, .inl ⟨sql hDJ, fun t ht => ⟨(by show 4 ≤ sizeLine; decide), fun q hq => ?_⟩⟩⟩
      have nqt : q ≠ t := fun z => by rw [z, upd_same] at hq; cases hq
      rw [upd_ne nqt] at hq
      have hpJ := sJ _ _ hp1
      have hdJ := sJ _ _ hd1
      refine q1 h1 q t acc _ (f1 q (sJ.free hq)) ⟨⟨dx, lift (lift hpJ (ne_of_none hpJ ht)) (ne_of_none hpJ hq)⟩, lift (lift hdJ (ne_of_none hdJ ht)) (ne_of_none hdJ hq)⟩ upd_same (by rw [upd_ne nqt.symm, upd_same]) (ma_keep (fun x ts h => lift (lift h (ne_of_none h ht)) (ne_of_none h hq)) hmJ) fun y o hy hyp => ?_
      have hyJ := sJ _ _ (k1 y o hy hyp)
      exact lift (lift hyJ (ne_of_none hyJ ht)) (ne_of_none hyJ hq)
theorem ok__law_rows (T : TX K mg) : FnOk P w K mg base CX0 1 T.a__law_rows T.d__law_rows ["kept", "first"] sp_rows := by
  refine T.F__law_rows.ok sc__law_rows (fun vs H Q E h => ?_) (fun cdv A outer s H vs Q E hr h => ?_)
  · obtain ⟨a, f, xs, es, rfl, _⟩ := h
    rfl
  · obtain ⟨a, f, xs, es, rfl, ha, hm, nd, hl, q⟩ := h
    refine ⟨_, (pss_cons (ps_set (i := 2) sc__law_rows.nd rfl (Or.inl rfl) (pe_lst pa_nil))
      (pss_cons (ps_for PassesOwn.never rfl (pi_range2 (by rfl) T.n_range (pa_cons pe_int (pa_cons pe_int pa_nil))) (pg_name (i := 3) sc__law_rows.nd rfl (Or.inl rfl))
        (pss_cons (ps_set (i := 4) sc__law_rows.nd rfl (Or.inl rfl) pe_non)
        (pss_cons (ps_for PassesOwn.never rfl (pi_list (pv 0)) (pg_name (i := 5) sc__law_rows.nd rfl (Or.inl rfl))
          (pss_one (ps_if (pt_cmpR op_eq (pe_ix ix_tup (pv 5) pe_int (fun _ _ => rfl)) (pv 3) (nomark _)) (pss_one (ps_set (i := 4) sc__law_rows.nd rfl (Or.inl rfl) (pv 5))) pss_nil)))
        (pss_one (ps_if (PW.pt (pw_and (pt_cmpR op_notN (pv 4) pe_non (nomark _)) (pw_and1 (pt_cmpR op_ge (pv 3) (pv 1) (nomark _))))) (pss_one (ps_expr (pe_bm PySem.F.plainAttrs_list PySem.F.slot_list_append PySem.F.type_list_append mt_append (pv 2) (pa_cons (pv 4) pa_nil)))) pss_nil)))))
      (pss_one (ps_ret (pe_callTy call_tuple_of (by rfl) T.n_tuple (by decide +kernel) (pa_cons (pv 2) pa_nil)))))), ?_⟩
    refine ⟨Nat.zero_le _, fun o ho => ?_⟩
    have nao : a ≠ o := ne_of_none ha ho
    refine ⟨0, 40, rfl, by decide, for_range (lo := 0) (n := 40) (fun i σ H' => ∃ (ys : List V) (x3 x4 x5 : Option V), σ = [some (.ref a), some (.int f), some (.ref o), x3, x4, x5] ∧ Same H H' ∧ H' o = some (.lst ys) ∧ MA H' ys ((List.range i).filterMap fun (s : Nat) => rowG es f s)) ⟨[], none, none, none, rfl, same_upd ho, upd_same, trivial⟩ ?_ ?_⟩
    · rintro i σ H' hi ⟨ys, x3, x4, x5, rfl, s1, e1, e2⟩
      have ha' := s1 _ _ ha
      have hm' := ma_keep (fun t ts h => s1 t _ h) hm
      refine ⟨_, rfl, a, rfl, ⟨_, sql ha'⟩, for_list (K := K) (a := a) (xs := xs) (fun j σ G => H' = G ∧ ∃ (last : V) (x5 : Option V), σ = [some (.ref a), some (.int f), some (.ref o), some (.int (0 + (i : Int))), some last, x5] ∧ ((lk (es.take j) (0 + (i : Int)) = none ∧ last = .non) ∨ ∃ e, lk (es.take j) (0 + (i : Int)) = some e ∧ EntAt H' last e))
        ⟨rfl, .non, x5, rfl, .inl ⟨rfl, rfl⟩⟩ (fun j σ G _ h => by rw [← h.1]; exact sql ha') ?_ ?_⟩
      · rintro j x σ _ hx ⟨rfl, last, x5, rfl, hlast⟩
        obtain ⟨e, he, t, rfl, ht⟩ := ma_at hm' hx
        refine ⟨_, rfl, t, _, 0, _, rfl, rfl, sqt ht, rfl, _, rfl, rfl, _, rfl, ?_⟩
        rw [dec_int]
        by_cases hs : e.1 = 0 + (i : Int)
        · rw [hs, beq_self_eq_true]
          refine (if_pos rfl).mpr ⟨_, rfl, rfl, _, _, rfl, .inr ⟨e, ?_, t, rfl, ht⟩⟩
          rw [← hs]
          exact (lk_take nd he).1
        · have : (e.1 == 0 + (i : Int)) = false := by simpa using hs
          rw [this]
          refine (if_neg Bool.false_ne_true).mpr ⟨rfl, last, _, rfl, ?_⟩
          rw [lk_skip he hs]
          exact hlast
      · rintro σ _ ⟨rfl, last, x5, rfl, hlast⟩
        rw [ma_len hm, List.take_length, Int.zero_add] at hlast
        have hrng : (List.range (i + 1)).filterMap (fun (s : Nat) => rowG es f s) = (List.range i).filterMap (fun (s : Nat) => rowG es f s) ++ (rowG es f i).toList := by
          rw [List.range_succ, List.filterMap_append]
          cases hz : rowG es f i <;> simp [hz]
        rcases hlast with ⟨h1, rfl⟩ | ⟨e, h1, t, rfl, ht⟩
        · refine ⟨_, rfl, rfl, _, rfl, ifnt rfl ((if_neg Bool.false_ne_true).mpr ?_)⟩
          have hg : rowG es f i = none := by unfold rowG; rw [h1]; split <;> rfl
          rw [hg] at hrng
          refine ⟨ys, _, _, _, rfl, s1, e1, ?_⟩
          rw [hrng]
          simpa using e2
        · refine ⟨_, rfl, rfl, _, rfl, ifn (fun _ => ?_) (fun z => by cases z)⟩
          refine ⟨_, rfl, _, rfl, _, _, rfl, rfl, _, rfl, ifd (fun hc => ?_) (fun hc => ?_)⟩
          · have hg : rowG es f i = some e := by unfold rowG; rw [if_pos (by omega)]; exact h1
            rw [hg] at hrng
            have hyl : ys.length ≤ 40 := by
              rw [ma_len e2]
              exact Nat.le_trans (List.length_filterMap_le _ _) (by rw [List.length_range]; omega)
            refine ⟨_, rfl, .inl ⟨rfl, _, sql e1⟩, _, rfl, o, ys, .ref t, rfl, rfl, e1, szl (by omega), ?_⟩
            refine ⟨ys ++ [.ref t], _, _, _, rfl, same_put s1 ho, upd_same, ?_⟩
            rw [hrng]
            have kk : Keep H' (upd H' o (.lst (ys ++ [.ref t]))) := fun u us h => lift h (ne_of h e1 (by intro z; cases z))
            exact ma_app (ma_keep kk e2) ⟨⟨t, rfl, kk _ _ ht⟩, trivial⟩
          · have hg : rowG es f i = none := by unfold rowG; rw [if_neg (by omega)]
            rw [hg] at hrng
            refine ⟨ys, _, _, _, rfl, s1, e1, ?_⟩
            rw [hrng]
            simpa using e2
    · rintro σ H' ⟨ys, x3, x4, x5, rfl, s1, e1, e2⟩
      refine ⟨_, rfl, o, _, rfl, .inl ⟨sql e1, fun t ht => ?_⟩⟩
      refine q t ys _ (s1.free ht) (s1.trans (same_upd ht)) upd_same ?_
      exact ma_keep (fun u us h => same_upd ht u _ h) e2
end
/-- [one for one in a list of entries if ..] -/
theorem lc_ents {K : PySem.W.Frag} {wi : TI} {te : TE} {tt : TT} {s : Nat} {σ : L2.St} {H : Hp} {Q : VK} (a : Addr) (xs : List V) (es : List Ent) (f : Ent → Bool) (ha : H a = some (.lst xs)) (hm : MA H xs es) (hlen : xs.length ≤ 90000)
    (hwi : ∀ R : It → Hp → Prop, R (Itl K a) H → wi σ H R)
    (hw : ∀ x, wipe ((wipe σ [s]).set s (some x)) [s] = wipe σ [s])
    (ht : ∀ (x : V) (e : Ent) (G : Hp) (Q' : Bool → Hp → Prop), EntAt G x e → Same H G → Q' (f e) G → tt ((wipe σ [s]).set s (some x)) G Q')
    (he : ∀ (x : V) (G : Hp) (Q' : VK), Q' x G → te ((wipe σ [s]).set s (some x)) G Q')
    (k : ∀ D H' ys, H D = none → Same H H' → H' D = some (.lst ys) → MA H' ys (es.filter f) → Q (.ref D) H') : tLc wi (gName s) tt te [s] σ H Q := by
  refine hwi _ fun D hD => ?_
  refine lc_list (K := K) (a := a) (xs := xs) (fun i J => Same H J ∧ ∃ ys, J D = some (.lst ys) ∧ MA J ys ((es.take i).filter f))
    ⟨same_upd hD, [], upd_same, trivial⟩ (fun i J _ h => sql (h.1 _ _ ha)) (fun i x J hx hJ => ?_) (fun J hJ => ?_)
  · obtain ⟨sJ, ys, h1, h2⟩ := hJ
    obtain ⟨e, hei, hex⟩ := ma_at hm hx
    have hex' := ea_keep (fun t ts h => sJ t _ h) hex
    have htf := take_filter f hei
    refine ⟨hw x, ht x e J _ hex' sJ ?_⟩
    cases hf : f e with
    | true =>
      have hyl : ys.length ≤ 90000 := by
        rw [ma_len h2]
        refine Nat.le_trans (List.length_filter_le _ _) ?_
        rw [List.length_take, ← ma_len hm]
        omega
      refine (if_pos rfl).mpr (he x J _ ⟨ys, h1, szl (by omega), same_put sJ hD, ys ++ [x], upd_same, ?_⟩)
      rw [htf, hf]
      have kk : Keep J (upd J D (.lst (ys ++ [x]))) := fun t ts h => lift h (ne_of h h1 (by intro z; cases z))
      exact ma_app (ma_keep kk h2) ⟨ea_keep kk hex', trivial⟩
    | false =>
      refine (if_neg Bool.false_ne_true).mpr ⟨sJ, ys, h1, ?_⟩
      rw [htf, hf]
      simpa using h2
  · obtain ⟨sJ, ys, h1, h2⟩ := hJ
    rw [ma_len hm, List.take_length] at h2
    exact k D J ys hD sJ h1 h2
/-- the model: a list of three -/
structure MdlAt (H : Hp) (m kl : Addr) (pr b : Int) (xs : List V) (es : List Ent) : Prop where
  mo : H m = some (.lst [.int pr, .int b, .ref kl])
  ko : H kl = some (.lst xs)
  ea : MA H xs es
  ne : m ≠ kl
def putE (es : List Ent) (s x : Int) (v : V) : List Ent := es.filter (fun e => !decide (e.1 = s)) ++ [(s, x, v)]
def sp_state (C : Addr) : Sp := fun vs H Q _ => ∃ (p d m kl : Addr) (pr b : Int) (kvs : List (Key × V)) (xs : List V) (es : List Ent), vs = [.ref p, .ref m] ∧ AccAt C H p d pr b kvs ∧ MdlAt H m kl pr b xs es ∧ ∀ H', Same H H' → Q (.bl true) H'
def sp_maccept : Sp := fun vs H Q _ => ∃ (m kl : Addr) (pr b x s : Int) (v : V) (xs : List V) (es : List Ent), vs = [.ref m, .int x, .int s, v] ∧ MdlAt H m kl pr b xs es ∧ es.length ≤ 1000 ∧
  (x < pr → ∀ q H', H q = none → Same H H' → H' q = some (.tup [.str "refuse", .int pr]) → Q (.ref q) H') ∧
  (¬ x < pr → s < b → ∀ q H', H q = none → MdlAt H' m kl x b xs es → H' q = some (.tup [.str "decided", .int b]) → (∀ y o, H y = some o → y ≠ m → H' y = some o) → Q (.ref q) H') ∧
  (¬ x < pr → ¬ s < b → ∀ q kl' ys H', H q = none → H kl' = none → MdlAt H' m kl' x b ys (putE es s x v) → H' q = some (.tup [.str "accepted", .int x, .int s]) → (∀ y o, H y = some o → y ≠ m → H' y = some o) → Q (.ref q) H')
section
variable {P : Program} {w : World} {K : PySem.W.Frag} {mg : Str → Option Value} {base : Heap}
theorem ok__law_is_state (T : TX K mg) : FnOk P w K mg base CX0 1 T.a__law_is_state T.d__law_is_state ["acceptor", "model"] (sp_state T.a_Acceptor) := by
  refine T.F__law_is_state.ok sc__law_is_state (fun vs H Q E h => ?_) (fun cdv A outer s H vs Q E hr h => ?_)
  · obtain ⟨p, d, m, kl, pr, b, kvs, xs, es, rfl, _⟩ := h
    rfl
  · obtain ⟨p, d, m, kl, pr, b, kvs, xs, es, rfl, ⟨⟨dx, hp⟩, hd⟩, hM, q⟩ := h
    refine ⟨_, (pss_cons (ps_for PassesOwn.never rfl (pi_list (pe_lst (pa_cons (pe_fld (pv 0) rfl) (pa_cons (pe_fld (pv 0) rfl) pa_nil)))) (pg_name (i := 2) sc__law_is_state.nd rfl (Or.inl rfl))
        (pss_one (ps_if (PW.pt (pw_or (pt_not (pt_val (pe_callB call_isi (by rfl) T.n_isinstance (by decide +kernel) (pa_cons (pv 2) (pa_cons (pe_bltn (v := .ty "int") (u := .type "int") (by rfl) T.n_int (by decide +kernel) rfl) pa_nil))))) (pw_or1 (pt_val (pe_callB call_isi (by rfl) T.n_isinstance (by decide +kernel) (pa_cons (pv 2) (pa_cons (pe_bltn (v := .ty "bool") (u := .type "bool") (by rfl) T.n_bool (by decide +kernel) rfl) pa_nil))))))) (pss_one (ps_ret pe_bl)) pss_nil)))
      (pss_one (ps_ret (pe_and (pe_cmpR op_eq (pe_fld (pv 0) rfl) (pe_ix ix_list (pv 1) pe_int (fun _ _ => rfl)) (nomark _)) (pe_one (pe_cmpR op_eq (pe_fld (pv 0) rfl) (pe_ix ix_list (pv 1) pe_int (fun _ _ => rfl)) (nomark _))))))), ?_⟩
    refine ⟨_, rfl, p, _, dx, _, _, rfl, hp, T.K_Acceptor, T.na_Acceptor_promised, fl_Acceptor_promised, _, rfl, p, _, dx, _, _, rfl, hp, T.K_Acceptor, T.na_Acceptor_base, fl_Acceptor_base, (by show 2 ≤ sizeLine; decide), fun o ho => ?_⟩
    refine ⟨o, rfl, ⟨_, sql upd_same⟩, for_list (K := K) (a := o) (xs := [V.int pr, V.int b]) (fun i σ G => G = upd H o (.lst [V.int pr, V.int b]) ∧ ∃ x2, σ = [some (.ref p), some (.ref m), x2])
      ⟨rfl, none, rfl⟩ (fun i σ G _ h => by rw [h.1]; exact sql upd_same) ?_ ?_⟩
    · rintro i v σ G hv ⟨rfl, x2, rfl⟩
      have hvi : ∃ z : Int, v = .int z := by
        rcases i with _ | _ | i
        · exact ⟨pr, (Option.some.inj hv).symm⟩
        · exact ⟨b, (Option.some.inj hv).symm⟩
        · simp at hv
      obtain ⟨z, rfl⟩ := hvi
      refine ⟨.int z, rfl, .int z, .ty "int", .type "int", .type "int", true, rfl, .ty _, .base (.int z), kit_ty (by decide +kernel), true, rfl, ?_⟩
      refine ⟨.int z, rfl, .int z, .ty "bool", .type "int", .type "bool", false, rfl, .ty _, .base (.int z), kit_ty (by decide +kernel), false, rfl, ?_⟩
      exact ⟨rfl, _, rfl⟩
    · rintro σ G ⟨rfl, x2, rfl⟩
      have s1 : Same H (upd H o (.lst [V.int pr, V.int b])) := same_upd ho
      have hp1 := s1 _ _ hp
      have hm1 := s1 _ _ hM.mo
      refine ⟨_, rfl, p, _, dx, _, _, rfl, hp1, T.K_Acceptor, T.na_Acceptor_promised, fl_Acceptor_promised, _, rfl, m, _, 0, _, rfl, rfl, sql hm1, rfl, rfl, true, by rw [decide_eq_true rfl], (if_pos rfl).mpr ?_⟩
      refine ⟨_, rfl, p, _, dx, _, _, rfl, hp1, T.K_Acceptor, T.na_Acceptor_base, fl_Acceptor_base, _, rfl, m, _, 1, _, rfl, rfl, sql hm1, rfl, rfl, ?_⟩
      have := q _ s1
      rw [decide_eq_true rfl]
      exact this
theorem ok__law_accept (T : TX K mg) : FnOk P w K mg base CX0 1 T.a__law_accept T.d__law_accept ["model", "ballot", "slot", "value"] sp_maccept := by
  refine T.F__law_accept.ok sc__law_accept (fun vs H Q E h => ?_) (fun cdv A outer s H vs Q E hr h => ?_)
  · obtain ⟨m, kl, pr, b, x, s, v, xs, es, rfl, _⟩ := h
    rfl
  · obtain ⟨m, kl, pr, b, x, s, v, xs, es, rfl, ⟨hm, hkl, hma, nmk⟩, hle, q0, q1, q2⟩ := h
    refine ⟨_, (pss_cons (ps_if (pt_cmpR op_lt (pv 1) (pe_ix ix_list (pv 0) pe_int (fun _ _ => rfl)) (nomark _)) (pss_one (ps_ret (pe_tup (pa_cons pe_str (pa_cons (pe_ix ix_list (pv 0) pe_int (fun _ _ => rfl)) pa_nil))))) pss_nil)
      (pss_cons (ps_asg (pv 1) (pg_sub (pv 0) pe_int set_list))
      (pss_cons (ps_if (pt_cmpR op_lt (pv 2) (pe_ix ix_list (pv 0) pe_int (fun _ _ => rfl)) (nomark _)) (pss_one (ps_ret (pe_tup (pa_cons pe_str (pa_cons (pe_ix ix_list (pv 0) pe_int (fun _ _ => rfl)) pa_nil))))) pss_nil)
      (pss_cons (ps_asg (pe_op op_cat (pe_lc (own := [("one", 4)]) (g := gName 4)  (by rfl) sc__law_accept.nd (pi_list (pe_ix ix_list (pv 0) pe_int (fun _ _ => rfl))) (blkOk_by (own := [("one", 4)]) (N := ["model", "ballot", "slot", "value", "one"]) (sc := defScope s__law_accept) (by decide +kernel)) (fun _ _ _ _ _ => pg_name (i := 4) sc__law_accept.nd rfl (Or.inl rfl)) (fun _ _ _ _ _ => pts_one (pt_cmpR op_ne (pe_ix (ixK_tup (K := K) rfl) (pv 4) pe_int (fun _ _ => rfl)) (pv 2) (nomark _))) (fun _ _ _ _ _ => (pv 4))) (pe_lst (pa_cons (pe_tup (pa_cons (pv 2) (pa_cons (pv 1) (pa_cons (pv 3) pa_nil)))) pa_nil))) (pg_sub (pv 0) pe_int set_list))
      (pss_one (ps_ret (pe_tup (pa_cons pe_str (pa_cons (pv 1) (pa_cons (pv 2) pa_nil)))))))))), ?_⟩
    refine ⟨_, rfl, _, rfl, m, _, 0, _, rfl, rfl, sql hm, rfl, _, _, rfl, rfl, _, rfl, ifd (fun h1 => ?_) (fun h1 => ?_)⟩
    · exact ⟨_, rfl, m, _, 0, _, rfl, rfl, sql hm, rfl, (by show 2 ≤ sizeLine; decide), fun t ht => q0 h1 t _ ht (same_upd ht) upd_same⟩
    refine ⟨_, rfl, _, rfl, m, _, 0, 0, rfl, rfl, hm, rfl, ?_⟩
    have hm1 : (upd H m (.lst [.int x, .int b, .ref kl])) m = some (.lst [.int x, .int b, .ref kl]) := upd_same
    have k1 : ∀ y o, H y = some o → y ≠ m → (upd H m (.lst [.int x, .int b, .ref kl])) y = some o := fun y o hy h => lift hy h
    have f1 : ∀ y, (upd H m (.lst [.int x, .int b, .ref kl])) y = none → H y = none := fun y hy => by
      have ny : y ≠ m := fun z => by rw [z, upd_same] at hy; cases hy
      rw [upd_ne ny] at hy
      exact hy
    have kk1 : Keep H (upd H m (.lst [.int x, .int b, .ref kl])) := fun t ts h => lift h (ne_of h hm (by intro z; cases z))
    have hset : [V.int pr, V.int b, V.ref kl].set 0 (V.int x) = [V.int x, V.int b, V.ref kl] := rfl
    rw [hset]
    generalize upd H m (.lst [.int x, .int b, .ref kl]) = G at hm1 k1 f1 kk1
    have hkl1 := k1 _ _ hkl nmk.symm
    have hma1 := ma_keep kk1 hma
    refine ⟨_, rfl, _, rfl, m, _, 1, _, rfl, rfl, sql hm1, rfl, _, _, rfl, rfl, _, rfl, ifd (fun h2 => ?_) (fun h2 => ?_)⟩
    · refine ⟨_, rfl, m, _, 1, _, rfl, rfl, sql hm1, rfl, (by show 2 ≤ sizeLine; decide), fun t ht => ?_⟩
      have st : Same G (upd G t (.tup [.str "decided", .int b])) := same_upd ht
      exact q1 h1 h2 t _ (f1 t ht) ⟨st _ _ hm1, st _ _ hkl1, ma_keep (fun u us h => st u _ h) hma1, nmk⟩ upd_same fun y o hy hn => st _ _ (k1 y o hy hn)
    · dsimp only [L2.tNext, L2.tSeq, L2.tAsg, L2.tOp]
      refine lc_ents (K := K) (s := 4) kl xs es (fun e => !decide (e.1 = s)) hkl1 hma1 (by rw [ma_len hma]; omega) (fun R hR => ⟨_, rfl, m, _, 2, _, rfl, rfl, sql hm1, rfl, kl, rfl, ⟨_, sql hkl1⟩, hR⟩) (fun _ => rfl) (fun y e J Q' hy sJ hq => ?_) (fun y J Q' hq => ⟨_, rfl, hq⟩) (fun D J ys hD sJ hDJ hmJ => ?_)
      · obtain ⟨t, rfl, ht⟩ := hy
        refine ⟨_, rfl, t, _, 0, _, rfl, rfl, sqt ht, rfl, _, rfl, rfl, _, rfl, ?_⟩
        have e1 : decide (V.int e.1 = V.int s) = decide (e.1 = s) := by
          congr 1
          exact propext ⟨fun h => V.int.inj h, fun h => by rw [h]⟩
        rw [e1]
        exact hq
      · refine ⟨_, rfl, _, rfl, _, rfl, (by show 3 ≤ sizeLine; decide), fun t ht => ⟨(by show 1 ≤ sizeLine; decide), fun l hl => ?_⟩⟩
        have nDt : D ≠ t := ne_of_none hDJ ht
        have hl0 : J l = none := (same_upd ht).free hl
        have nlt : l ≠ t := fun z => by rw [z, upd_same] at hl; cases hl
        have nDl : D ≠ l := ne_of_none hDJ hl0
        have hyl : ys.length ≤ 1000 := by
          rw [ma_len hmJ]
          exact Nat.le_trans (List.length_filter_le _ _) hle
        refine ⟨D, l, ys, [.ref t], rfl, rfl, lift (lift hDJ nDt) nDl, upd_same, sz (by simp only [List.length_cons, List.length_nil]; omega), fun r hr => ?_⟩
        have s2 : Same J (upd (upd J t (.tup [.int s, .int x, v])) l (.lst [.ref t])) := (same_upd ht).trans (same_upd hl)
        have ht2 : (upd (upd J t (.tup [.int s, .int x, v])) l (.lst [.ref t])) t = some (.tup [.int s, .int x, v]) := by rw [upd_ne nlt.symm, upd_same]
        have s3 : Same J (upd (upd (upd J t (.tup [.int s, .int x, v])) l (.lst [.ref t])) r (.lst (ys ++ [.ref t]))) := s2.trans (same_upd hr)
        have ht3 := same_upd (o := .lst (ys ++ [.ref t])) hr _ _ ht2
        have hr3 : (upd (upd (upd J t (.tup [.int s, .int x, v])) l (.lst [.ref t])) r (.lst (ys ++ [.ref t]))) r = some (.lst (ys ++ [.ref t])) := upd_same
        have hJr : J r = none := s2.free hr
        generalize upd (upd (upd J t (.tup [.int s, .int x, v])) l (.lst [.ref t])) r (.lst (ys ++ [.ref t])) = L at s3 ht3 hr3
        have hmL := s3 _ _ (sJ _ _ hm1)
        have nmr : m ≠ r := ne_of_none (sJ _ _ hm1) hJr
        refine ⟨_, rfl, m, _, 2, 2, rfl, rfl, hmL, rfl, ?_⟩
        have hset2 : [V.int x, V.int b, V.ref kl].set 2 (V.ref r) = [V.int x, V.int b, V.ref r] := rfl
        rw [hset2]
        refine ⟨_, rfl, _, rfl, (by show 3 ≤ sizeLine; decide), fun q hq => ?_⟩
        have nqm : q ≠ m := fun z => by rw [z, upd_same] at hq; cases hq
        rw [upd_ne nqm] at hq
        have kL : Keep L (upd (upd L m (.lst [.int x, .int b, .ref r])) q (.tup [.str "accepted", .int x, .int s])) := fun u us h => lift (lift h (ne_of h hmL (by intro z; cases z))) (ne_of_none h hq)
        refine q2 h1 h2 q r (ys ++ [.ref t]) _ (f1 q (sJ.free (s3.free hq))) (f1 r (sJ.free hJr)) ⟨by rw [upd_ne nqm.symm, upd_same], lift (lift hr3 nmr.symm) (ne_of_none hr3 hq), ?_, nmr⟩ upd_same fun y o hy hn => lift (lift (s3 _ _ (sJ _ _ (k1 y o hy hn))) hn) (ne_of_none (s3 _ _ (sJ _ _ (k1 y o hy hn))) hq)
        refine ma_keep kL (ma_app (ma_keep (fun u us h => s3 u _ h) hmJ) ⟨⟨t, rfl, ht3⟩, trivial⟩)
end
structure AS where
  pr : Int
  b : Int
  es : List Ent
def mx (x pr : Int) : Int := if x > pr then x else pr
theorem mx_ge {x pr : Int} (h : ¬ x < pr) : mx x pr = x := by unfold mx; split <;> omega
def stp (st : AS) : Rec → AS
  | .pro x => ⟨mx x st.pr, st.b, st.es⟩
  | .acc x s v => ⟨mx x st.pr, st.b, if s < st.b then st.es else putE st.es s x v⟩
  | .img _ => st
  | .cut s => if st.b < s then ⟨st.pr, s, st.es.filter fun e => decide (e.1 ≥ s)⟩ else st
def AccRep (C : Addr) (H : Hp) (p d : Addr) (st : AS) : Prop := ∃ kvs es', AccAt C H p d st.pr st.b kvs ∧ KA H kvs es' ∧ es'.Perm st.es
def VA3 (H : Hp) (v : V) : Prop := ∃ t k z, v = .ref t ∧ H t = some (.tup [.str "v", .int k, .int z])
def RecsAt (K : PySem.W.Frag) (H : Hp) : List V → List Rec → Prop
  | [], [] => True
  | x :: xs, r :: rs => (∃ t, x = .ref t ∧ RecAt K H t r) ∧ RecsAt K H xs rs
  | _, _ => False
structure Wf (st : AS) (n : Nat) : Prop where
  nd : (st.es.map (·.1)).Nodup
  rg : ∀ e ∈ st.es, 0 ≤ e.1 ∧ e.1 < 40
  ln : st.es.length ≤ n
structure Wrld (C : Addr) (K : PySem.W.Frag) (H : Hp) (p d m kl o : Addr) (st : AS) (xs rs : List V) (rcs : List Rec) (n : Nat) : Prop where
  acc : AccRep C H p d st
  mdl : MdlAt H m kl st.pr st.b xs st.es
  ro : H o = some (.lst rs)
  rc : RecsAt K H rs rcs
  mo : m ≠ o
  ko : kl ≠ o
  wf : Wf st n
  ev : ∀ e ∈ st.es, VA3 H e.2.2
  rl : rcs.length ≤ n
  st0 : rcs.foldl stp ⟨0, 0, []⟩ = st
theorem va3_keep {H H' : Hp} (h : Keep H H') {v : V} : VA3 H v → VA3 H' v := fun ⟨t, k, z, e, q⟩ => ⟨t, k, z, e, h _ _ q⟩
theorem rec_keep {K : PySem.W.Frag} {H H' : Hp} (h : Keep H H') {r : Addr} : ∀ {rc : Rec}, RecAt K H r rc → RecAt K H' r rc
  | .pro _, q => h _ _ q
  | .acc _ _ _, q => h _ _ q
  | .img _, ⟨e, q⟩ => ⟨e, h _ _ q⟩
  | .cut _, q => h _ _ q
theorem recs_keep {K : PySem.W.Frag} {H H' : Hp} (h : Keep H H') : ∀ {xs : List V} {rs : List Rec}, RecsAt K H xs rs → RecsAt K H' xs rs
  | [], [], _ => trivial
  | x :: xs, r :: rs, ⟨⟨t, e, q⟩, g⟩ => ⟨⟨t, e, rec_keep h q⟩, recs_keep h g⟩
theorem recs_app {K : PySem.W.Frag} {H : Hp} {x : V} {r : Rec} (hx : ∃ t, x = .ref t ∧ RecAt K H t r) : ∀ {xs : List V} {rs : List Rec}, RecsAt K H xs rs → RecsAt K H (xs ++ [x]) (rs ++ [r])
  | [], [], _ => ⟨hx, trivial⟩
  | y :: xs, s :: rs, ⟨q, g⟩ => ⟨q, recs_app hx g⟩
theorem recs_len {K : PySem.W.Frag} {H : Hp} : ∀ {xs : List V} {rs : List Rec}, RecsAt K H xs rs → xs.length = rs.length
  | [], [], _ => rfl
  | y :: xs, s :: rs, ⟨q, g⟩ => by simp [recs_len g]
/-- an entry put in the place of the one of its slot -/
def putL (es : List Ent) (s x : Int) (v : V) : List Ent := if es.any (fun e => decide (e.1 = s)) then es.map (fun e => if e.1 = s then (s, x, v) else e) else es ++ [(s, x, v)]
theorem ka_app {H : Hp} {k : Key} {v : V} {e : Ent} (h1 : k = Sum.inl e.1) (h2 : ∃ t, v = .ref t ∧ H t = some (.tup [.int e.2.1, e.2.2])) : ∀ {kvs : List (Key × V)} {es : List Ent}, KA H kvs es → KA H (kvs ++ [(k, v)]) (es ++ [e])
  | [], [], _ => ⟨h1, h2, trivial⟩
  | (k', v') :: r, e' :: es, ⟨q, q2, g⟩ => ⟨q, q2, ka_app h1 h2 g⟩
theorem ka_map {H : Hp} {s x : Int} {v : V} {t : Addr} (ht : H t = some (.tup [.int x, v])) : ∀ {kvs : List (Key × V)} {es : List Ent}, KA H kvs es → KA H (kvs.map fun kv => if kv.1 = Sum.inl s then (kv.1, V.ref t) else kv) (es.map fun e => if e.1 = s then (s, x, v) else e)
  | [], [], _ => trivial
  | (k, v') :: r, e :: es, ⟨q, q2, g⟩ => by
    subst q
    have ih := ka_map (s := s) (x := x) (v := v) ht g
    simp only [List.map_cons]
    by_cases h : e.1 = s
    · rw [if_pos (by rw [h]), if_pos h]
      exact ⟨by show Sum.inl e.1 = Sum.inl s; rw [h], ⟨t, rfl, ht⟩, ih⟩
    · rw [if_neg (fun z => h (Sum.inl.inj z)), if_neg h]
      exact ⟨rfl, q2, ih⟩
theorem putL_perm {es : List Ent} (nd : (es.map (·.1)).Nodup) (s x : Int) (v : V) : (putL es s x v).Perm (putE es s x v) := by
  unfold putL putE
  split
  · next h =>
    induction es with
    | nil => cases h
    | cons e r ih =>
      simp only [List.map_cons, List.nodup_cons] at nd
      by_cases he : e.1 = s
      · have hr : ∀ y ∈ r, y.1 ≠ s := fun y hy z => nd.1 (by rw [he, ← z]; exact List.mem_map.mpr ⟨y, hy, rfl⟩)
        have e1 : r.map (fun e => if e.1 = s then ((s, x, v) : Ent) else e) = r := by
          conv => rhs; rw [← List.map_id r]
          exact List.map_congr_left fun y hy => by rw [if_neg (hr y hy)]; rfl
        have e2 : r.filter (fun e => !decide (e.1 = s)) = r := List.filter_eq_self.mpr fun y hy => by simp [hr y hy]
        rw [List.map_cons, if_pos he, e1, List.filter_cons_of_neg (by simp [he]), e2]
        exact (List.perm_append_singleton _ _).symm
      · rw [List.map_cons, if_neg he, List.filter_cons_of_pos (by simp [he]), List.cons_append]
        refine List.Perm.cons _ (ih nd.2 ?_)
        rw [List.any_cons] at h
        simpa [he] using h
  · next h =>
    have hr : ∀ y ∈ es, y.1 ≠ s := fun y hy z => h (List.any_eq_true.mpr ⟨y, hy, by simp [z]⟩)
    rw [List.filter_eq_self.mpr fun y hy => by simp [hr y hy]]
theorem putE_perm {es fs : List Ent} (p : es.Perm fs) (s x : Int) (v : V) : (putE es s x v).Perm (putE fs s x v) := (p.filter _).append_right _
theorem ka_keep0 {H : Hp} {n : Int} : ∀ {kvs : List (Key × V)} {es : List Ent}, KA H kvs es → KA H (keepFrom kvs n) (es.filter fun e => decide (e.1 ≥ n))
  | [], [], _ => trivial
  | (k, v) :: r, e :: es, ⟨q, q2, g⟩ => by
    subst q
    have ih := ka_keep0 (n := n) g
    unfold keepFrom at ih ⊢
    simp only [List.filter_cons]
    by_cases h : n ≤ e.1
    · have h' : e.1 ≥ n := h
      simp only [decide_eq_true h, decide_eq_true h', if_true]
      exact ⟨rfl, q2, ih⟩
    · have h' : ¬ e.1 ≥ n := h
      simp only [decide_eq_false h, decide_eq_false h']
      exact ih
theorem wf_put {st : AS} {n : Nat} {s x : Int} {v : V} {pr b : Int} (h : Wf st n) (h0 : 0 ≤ s) (h1 : s < 40) : Wf ⟨pr, b, putE st.es s x v⟩ (n + 1) where
  nd := by
    unfold putE
    rw [List.map_append]
    refine List.nodup_append.mpr ⟨(List.filter_sublist.map _).nodup h.nd, by simp, fun y hy z hz w => ?_⟩
    obtain ⟨e, he, e1⟩ := List.mem_map.mp hy
    have := (List.mem_filter.mp he).2
    simp only [List.map_cons, List.map_nil, List.mem_cons, List.not_mem_nil, or_false] at hz
    have : e.1 ≠ s := by simpa using this
    exact this (by rw [e1, w, hz])
  rg := fun e he => by
    rcases List.mem_append.mp he with he | he
    · exact h.rg e (List.mem_filter.mp he).1
    · simp only [List.mem_cons, List.not_mem_nil, or_false] at he
      subst he
      exact ⟨h0, h1⟩
  ln := by
    unfold putE
    rw [List.length_append]
    have := List.length_filter_le (fun e : Ent => !decide (e.1 = s)) st.es
    have := h.ln
    simp only [List.length_cons, List.length_nil]
    omega
theorem wf_flt {st : AS} {n : Nat} {pr b : Int} (f : Ent → Bool) (h : Wf st n) : Wf ⟨pr, b, st.es.filter f⟩ n where
  nd := (List.filter_sublist.map _).nodup h.nd
  rg := fun e he => h.rg e (List.mem_filter.mp he).1
  ln := Nat.le_trans (List.length_filter_le _ _) h.ln
theorem rows_data {K : PySem.W.Frag} {H : Hp} : ∀ {es : List Ent}, (∀ e ∈ es, VA3 H e.2.2) → ∃ ds : List PyData, (∀ xs, MA H xs es → DpAll K H xs ds) ∧ ∀ d ∈ ds, Flat 2 d
  | [], _ => ⟨[], fun xs h => by cases xs with | nil => exact .nil | cons _ _ => exact h.elim, fun d hd => by cases hd⟩
  | e :: es, h => by
    obtain ⟨ds, h1, h2⟩ := rows_data (K := K) (fun f hf => h f (List.mem_cons_of_mem _ hf))
    obtain ⟨s, b, v⟩ := e
    obtain ⟨t, k, z, e1, e2⟩ := h (s, b, v) List.mem_cons_self
    subst e1
    refine ⟨.tuple [.int s, .int b, .tuple [.str "v", .int k, .int z]] :: ds, fun xs hx => ?_, fun d hd => ?_⟩
    · cases xs with
      | nil => exact hx.elim
      | cons x xs =>
        obtain ⟨⟨u, rfl, hu⟩, g⟩ := hx
        exact .cons (.tup (sqt hu) (.cons (.int _) (.cons (.int _) (.cons (.tup (sqt e2) (.cons (.str _) (.cons (.int _) (.cons (.int _) .nil)))) .nil)))) (h1 xs g)
    · rcases List.mem_cons.mp hd with rfl | hd
      · refine flat_tup fun d hd => ?_
        simp only [List.mem_cons, List.not_mem_nil, or_false] at hd
        rcases hd with rfl | rfl | rfl
        · exact flat_int 1 _
        · exact flat_int 1 _
        · refine flat_tup fun d hd => ?_
          simp only [List.mem_cons, List.not_mem_nil, or_false] at hd
          rcases hd with rfl | rfl | rfl
          · exact flat_str 0 _
          · exact flat_int 0 _
          · exact flat_int 0 _
      · exact h2 d hd
theorem rowsOf_mem {es : List Ent} {f : Int} {e : Ent} (h : e ∈ rowsOf es f) : e ∈ es := by
  obtain ⟨s, _, hs⟩ := List.mem_filterMap.mp h
  unfold rowG at hs
  split at hs
  · exact (lk_some hs).1
  · cases hs
theorem ka_any {H : Hp} {s : Int} : ∀ {kvs : List (Key × V)} {es : List Ent}, KA H kvs es → (kvs.any fun kv => decide (kv.1 = Sum.inl s)) = es.any fun e => decide (e.1 = s)
  | [], [], _ => rfl
  | (k, v) :: r, e :: es, ⟨q, _, g⟩ => by
    subst q
    rw [List.any_cons, List.any_cons, ka_any g]
    congr 1
    by_cases h : e.1 = s
    · simp [h]
    · have : (Sum.inl e.1 : Key) ≠ Sum.inl s := fun z => h (Sum.inl.inj z)
      simp [h, this]
theorem ka_put {H : Hp} {s x : Int} {v : V} {t : Addr} (ht : H t = some (.tup [.int x, v])) {kvs : List (Key × V)} {es : List Ent} (h : KA H kvs es) : KA H (putK kvs (Sum.inl s) (.ref t)) (putL es s x v) := by
  unfold putK putL
  rw [ka_any h]
  split
  · exact ka_map ht h
  · exact ka_app (e := (s, x, v)) rfl ⟨t, rfl, ht⟩ h
theorem wf_mono {st : AS} {n m : Nat} (h : Wf st n) (hm : n ≤ m) : Wf st m := ⟨h.nd, h.rg, Nat.le_trans h.ln hm⟩
theorem va_put {H : Hp} {es : List Ent} {s x : Int} {v : V} (h : ∀ e ∈ es, VA3 H e.2.2) (hv : VA3 H v) : ∀ e ∈ putE es s x v, VA3 H e.2.2 := fun e he => by
  rcases List.mem_append.mp he with he | he
  · exact h e (List.mem_filter.mp he).1
  · simp only [List.mem_cons, List.not_mem_nil, or_false] at he
    subst he
    exact hv
def sp_deed (C : Addr) (K : PySem.W.Frag) : Sp := fun vs H Q _ => ∃ (p d m kl o : Addr) (st : AS) (xs rs : List V) (rcs : List Rec) (n : Nat) (kind x s : Int) (v : V), vs = [.ref p, .ref m, .ref o, .int kind, .int x, .int s, v] ∧ Wrld C K H p d m kl o st xs rs rcs n ∧ n ≤ 60 ∧ 0 ≤ s ∧ s < 40 ∧ VA3 H v ∧
  ∀ d' kl' st' xs' rs' rcs' H', Wrld C K H' p d' m kl' o st' xs' rs' rcs' (n + 1) → (∀ y u, H y = some u → y ≠ p → y ≠ d → y ≠ m → y ≠ o → H' y = some u) → Q (.bl true) H'
section
variable {P : Program} {w : World} {K : PySem.W.Frag} {mg : Str → Option Value} {base : Heap}
theorem ok__law_deed (T : TX K mg) : FnOk P w K mg base CX0 3 T.a__law_deed T.d__law_deed ["acceptor", "model", "records", "kind", "ballot", "slot", "value"] (sp_deed T.a_Acceptor K) := by
  refine T.F__law_deed.ok sc__law_deed (fun vs H Q E h => ?_) (fun cdv A outer s_ H vs Q E hr h => ?_)
  · obtain ⟨p, d, m, kl, o, st, xs, rs, rcs, n, kind, x, s, v, rfl, _⟩ := h
    rfl
  · obtain ⟨p, d, m, kl, o, st, xs, rs, rcs, n, kind, x, s, v, rfl, hW, hn, hs0, hs40, hv, q⟩ := h
    refine ⟨_, (pss_cons (ps_if (pt_cmpR op_lt (pv 3) pe_int (nomark _)) (pss_cons (ps_set (i := 7) sc__law_deed.nd rfl (Or.inl rfl) (pe_tup (pa_cons pe_str (pa_cons (pe_ix ix_list (pv 1) pe_int (fun _ _ => rfl)) pa_nil))))
        (pss_cons (ps_if (pt_cmpR op_ge (pv 4) (pe_ix ix_list (pv 1) pe_int (fun _ _ => rfl)) (nomark _)) (pss_cons (ps_asg (pv 4) (pg_sub (pv 1) pe_int set_list))
          (pss_cons (ps_set (i := 7) sc__law_deed.nd rfl (Or.inl rfl) (pe_tup (pa_cons pe_str (pa_cons (pv 4) (pa_cons (pe_ix ix_list (pv 1) pe_int (fun _ _ => rfl)) (pa_cons (pe_call (ok__law_rows T) (hr.mono (by decide)) (by rfl) T.g__law_rows T.F__law_rows.kp T.b__law_rows .nil pass0 (pa_cons (pe_ix ix_list (pv 1) pe_int (fun _ _ => rfl)) (pa_cons (pv 5) pa_nil))) pa_nil))))))
          (pss_one (ps_expr (pe_bm PySem.F.plainAttrs_list PySem.F.slot_list_append PySem.F.type_list_append mt_append (pv 2) (pa_cons (pe_tup (pa_cons pe_str (pa_cons (pv 4) pa_nil))) pa_nil)))))) pss_nil)
        (pss_one (ps_ret (pe_cmpR (op_eqD hr.units) (pe_meth (pv 0) T.K_Acceptor T.m_Acceptor_prepare (ok_Acceptor_prepare T) (hr.mono (by decide)) T.b_Acceptor_prepare .nil pass0 (pa_cons (pv 4) (pa_cons (pv 5) pa_nil))) (pv 7) (nomark _)))))) pss_nil)
      (pss_cons (ps_if (pt_cmpR op_lt (pv 3) pe_int (nomark _)) (pss_cons (ps_set (i := 7) sc__law_deed.nd rfl (Or.inl rfl) (pe_call (ok__law_accept T) (hr.mono (by decide)) (by rfl) T.g__law_accept T.F__law_accept.kp T.b__law_accept .nil pass0 (pa_cons (pv 1) (pa_cons (pv 4) (pa_cons (pv 5) (pa_cons (pv 6) pa_nil))))))
        (pss_cons (ps_if (pt_cmpR op_eq (pe_ix ix_tup (pv 7) pe_int (fun _ _ => rfl)) pe_str (nomark _)) (pss_one (ps_expr (pe_bm PySem.F.plainAttrs_list PySem.F.slot_list_append PySem.F.type_list_append mt_append (pv 2) (pa_cons (pe_tup (pa_cons pe_str (pa_cons (pv 4) (pa_cons (pv 5) (pa_cons (pv 6) pa_nil))))) pa_nil)))) pss_nil)
        (pss_cons (ps_if (pt_cmpR op_eq (pe_ix ix_tup (pv 7) pe_int (fun _ _ => rfl)) pe_str (nomark _)) (pss_one (ps_expr (pe_bm PySem.F.plainAttrs_list PySem.F.slot_list_append PySem.F.type_list_append mt_append (pv 2) (pa_cons (pe_tup (pa_cons pe_str (pa_cons (pv 4) pa_nil))) pa_nil)))) pss_nil)
        (pss_one (ps_ret (pe_cmpR (op_eqD hr.units) (pe_meth (pv 0) T.K_Acceptor T.m_Acceptor_accept (ok_Acceptor_accept T) (hr.mono (by decide)) T.b_Acceptor_accept .nil pass0 (pa_cons (pv 4) (pa_cons (pv 5) (pa_cons (pv 6) pa_nil)))) (pv 7) (nomark _))))))) pss_nil)
      (pss_cons (ps_if (pt_cmpR op_eq (pv 3) pe_int (nomark _)) (pss_cons (ps_if (pt_cmpR op_gt (pv 5) (pe_ix ix_list (pv 1) pe_int (fun _ _ => rfl)) (nomark _)) (pss_cons (ps_asg (pv 5) (pg_sub (pv 1) pe_int set_list))
          (pss_one (ps_asg (pe_lc (own := [("one", 9)]) (g := gName 9)  (by rfl) sc__law_deed.nd (pi_list (pe_ix ix_list (pv 1) pe_int (fun _ _ => rfl))) (blkOk_by (own := [("one", 9)]) (N := ["acceptor", "model", "records", "kind", "ballot", "slot", "value", "due", "record", "one"]) (sc := defScope s__law_deed) (by decide +kernel)) (fun _ _ _ _ _ => pg_name (i := 9) sc__law_deed.nd rfl (Or.inl rfl)) (fun _ _ _ _ _ => pts_one (pt_cmpR op_ge (pe_ix (ixK_tup (K := K) rfl) (pv 9) pe_int (fun _ _ => rfl)) (pv 5) (nomark _))) (fun _ _ _ _ _ => (pv 9))) (pg_sub (pv 1) pe_int set_list)))) pss_nil)
        (pss_cons (ps_expr (pe_bm PySem.F.plainAttrs_list PySem.F.slot_list_append PySem.F.type_list_append mt_append (pv 2) (pa_cons (pe_tup (pa_cons pe_str (pa_cons (pv 5) pa_nil))) pa_nil)))
        (pss_cons (ps_expr (pe_meth (pv 0) T.K_Acceptor T.m_Acceptor_cut (ok_Acceptor_cut T) (hr.mono (by decide)) T.b_Acceptor_cut .nil pass0 (pa_cons (pv 5) pa_nil)))
        (pss_one (ps_ret pe_bl))))) pss_nil)
      (pss_cons (ps_set (i := 8) sc__law_deed.nd rfl (Or.inl rfl) (pe_ix ix_list (pe_lst (pa_cons (pe_tup (pa_cons pe_str (pa_cons (pv 4) pa_nil))) (pa_cons (pe_tup (pa_cons pe_str (pa_cons (pv 4) (pa_cons (pv 5) (pa_cons (pv 6) pa_nil))))) (pa_cons (pe_tup (pa_cons pe_str (pa_cons (pv 5) (pa_cons (pe_tup pa_nil) pa_nil)))) pa_nil)))) (pe_op op_mod (pv 4) pe_int) (fun _ _ => rfl)))
      (pss_cons (ps_if (pt_cmpR op_ne (pe_ix ix_tup (pv 8) pe_int (fun _ _ => rfl)) pe_str (nomark _)) (pss_one (ps_asg (pe_callB (call_max2 rfl) (by rfl) T.n_max (by decide +kernel) (pa_cons (pe_ix ix_list (pv 1) pe_int (fun _ _ => rfl)) (pa_cons (pv 4) pa_nil))) (pg_sub (pv 1) pe_int set_list))) pss_nil)
      (pss_cons (ps_if (PW.pt (pw_and (pt_cmpR op_eq (pe_ix ix_tup (pv 8) pe_int (fun _ _ => rfl)) pe_str (nomark _)) (pw_and1 (pt_cmpR op_ge (pv 5) (pe_ix ix_list (pv 1) pe_int (fun _ _ => rfl)) (nomark _))))) (pss_one (ps_asg (pe_op op_cat (pe_lc (own := [("one", 9)]) (g := gName 9)  (by rfl) sc__law_deed.nd (pi_list (pe_ix ix_list (pv 1) pe_int (fun _ _ => rfl))) (blkOk_by (own := [("one", 9)]) (N := ["acceptor", "model", "records", "kind", "ballot", "slot", "value", "due", "record", "one"]) (sc := defScope s__law_deed) (by decide +kernel)) (fun _ _ _ _ _ => pg_name (i := 9) sc__law_deed.nd rfl (Or.inl rfl)) (fun _ _ _ _ _ => pts_one (pt_cmpR op_ne (pe_ix (ixK_tup (K := K) rfl) (pv 9) pe_int (fun _ _ => rfl)) (pv 5) (nomark _))) (fun _ _ _ _ _ => (pv 9))) (pe_lst (pa_cons (pe_tup (pa_cons (pv 5) (pa_cons (pv 4) (pa_cons (pv 6) pa_nil)))) pa_nil))) (pg_sub (pv 1) pe_int set_list))) pss_nil)
      (pss_cons (ps_expr (pe_bm PySem.F.plainAttrs_list PySem.F.slot_list_append PySem.F.type_list_append mt_append (pv 2) (pa_cons (pv 8) pa_nil)))
      (pss_cons (ps_expr (pe_meth (pv 0) T.K_Acceptor T.m_Acceptor_replay (ok_Acceptor_replay T) (hr.mono (by decide)) T.b_Acceptor_replay .nil pass0 (pa_cons (pv 8) pa_nil)))
      (pss_one (ps_ret pe_bl)))))))))), ?_⟩
    obtain ⟨kvs, es', ⟨⟨dx, hp⟩, hd⟩, hka, hperm⟩ := hW.acc
    obtain ⟨hm, hkl, hma, nmk⟩ := hW.mdl
    have ho := hW.ro
    have npm : p ≠ m := ne_of hp hm (by intro z; cases z)
    have npo : p ≠ o := ne_of hp ho (by intro z; cases z)
    have npk : p ≠ kl := ne_of hp hkl (by intro z; cases z)
    have npd : p ≠ d := ne_of hp hd (by intro z; cases z)
    have ndm : d ≠ m := ne_of hd hm (by intro z; cases z)
    have ndo : d ≠ o := ne_of hd ho (by intro z; cases z)
    have ndk : d ≠ kl := ne_of hd hkl (by intro z; cases z)
    have nmo := hW.mo
    have nko := hW.ko
    have nd' : (es'.map (·.1)).Nodup := (hperm.map _).nodup_iff.mpr hW.wf.nd
    have rg' : ∀ e ∈ es', 0 ≤ e.1 ∧ e.1 < 40 := fun e he => hW.wf.rg e (hperm.mem_iff.mp he)
    have len' : es'.length < 64 := by have := hperm.length_eq; have := hW.wf.ln; omega
    have kle : kvs.length ≤ 90000 := by have := ka_len hka; omega
    have rl : rs.length ≤ 60 := by have := recs_len hW.rc; have := hW.rl; omega
    have hest : st.es.length ≤ 1000 := by have := hW.wf.ln; omega
    refine ⟨_, rfl, _, _, rfl, rfl, _, rfl, ifd (fun c1 => ?_) (fun c1 => ?_)⟩
    · -- prepare
      refine ⟨_, rfl, m, _, 0, _, rfl, rfl, sql hm, rfl, (by show 2 ≤ sizeLine; decide), fun t1 ht1 => ?_⟩
      have s1 : Same H (upd H t1 (.tup [.str "refuse", .int st.pr])) := same_upd ht1
      have e1 : (upd H t1 (.tup [.str "refuse", .int st.pr])) t1 = some (.tup [.str "refuse", .int st.pr]) := upd_same
      generalize upd H t1 (.tup [.str "refuse", .int st.pr]) = G1 at s1 e1
      refine ⟨_, rfl, _, rfl, m, _, 0, _, rfl, rfl, sql (s1 _ _ hm), rfl, _, _, rfl, rfl, _, rfl, ifd (fun c2 => ?_) (fun c2 => ?_)⟩
      · have hx : ¬ x < st.pr := by omega
        refine ⟨_, rfl, _, rfl, m, _, 0, 0, rfl, rfl, s1 _ _ hm, rfl, ?_⟩
        have hset : [V.int st.pr, V.int st.b, V.ref kl].set 0 (V.int x) = [V.int x, V.int st.b, V.ref kl] := rfl
        rw [hset]
        have hmG := s1 _ _ hm
        have k2 : ∀ y u, H y = some u → y ≠ m → (upd G1 m (.lst [.int x, .int st.b, .ref kl])) y = some u := fun y u hy h => lift (s1 _ _ hy) h
        have e2 : (upd G1 m (.lst [.int x, .int st.b, .ref kl])) m = some (.lst [.int x, .int st.b, .ref kl]) := upd_same
        generalize upd G1 m (.lst [.int x, .int st.b, .ref kl]) = G2 at k2 e2
        have kk2 : Keep H G2 := keep_of (fun xs => by rw [hm]; intro z; cases z) k2
        refine ⟨_, rfl, _, rfl, m, _, 1, _, rfl, rfl, sql e2, rfl, _, rfl, m, _, 2, _, rfl, rfl, sql e2, rfl, _, rfl, kl, s, xs, st.es, rfl, k2 _ _ hkl nmk.symm, ma_keep kk2 hma, hW.wf.nd, hest, fun r1 ys1 G3 hr1 s3 hr1' hma1 => ?_⟩
        refine ⟨(by show 4 ≤ sizeLine; decide), fun t2 ht2 => ?_⟩
        refine ⟨_, rfl, .inl ⟨rfl, _, sql (same_upd ht2 _ _ (s3 _ _ (k2 _ _ ho nmo.symm)))⟩, _, rfl, (by show 2 ≤ sizeLine; decide), fun t3 ht3 => ⟨o, rs, .ref t3, rfl, rfl, same_upd ht3 _ _ (same_upd ht2 _ _ (s3 _ _ (k2 _ _ ho nmo.symm))), szl (by omega), ?_⟩⟩
        have s5 : Same G2 (upd (upd G3 t2 (.tup [.str "promise", .int x, .int st.b, .ref r1])) t3 (.tup [.str "promised", .int x])) := (s3.trans (same_upd ht2)).trans (same_upd ht3)
        have ht2' : (upd (upd G3 t2 (.tup [.str "promise", .int x, .int st.b, .ref r1])) t3 (.tup [.str "promised", .int x])) t2 = some (.tup [.str "promise", .int x, .int st.b, .ref r1]) := same_upd ht3 _ _ upd_same
        have ht3' : (upd (upd G3 t2 (.tup [.str "promise", .int x, .int st.b, .ref r1])) t3 (.tup [.str "promised", .int x])) t3 = some (.tup [.str "promised", .int x]) := upd_same
        have hr1'' : (upd (upd G3 t2 (.tup [.str "promise", .int x, .int st.b, .ref r1])) t3 (.tup [.str "promised", .int x])) r1 = some (.tup ys1) := same_upd ht3 _ _ (same_upd ht2 _ _ hr1')
        have hma1' : MA (upd (upd G3 t2 (.tup [.str "promise", .int x, .int st.b, .ref r1])) t3 (.tup [.str "promised", .int x])) ys1 (rowsOf st.es s) := ma_keep (fun u us h => same_upd ht3 _ _ (same_upd ht2 _ _ h)) hma1
        generalize upd (upd G3 t2 (.tup [.str "promise", .int x, .int st.b, .ref r1])) t3 (.tup [.str "promised", .int x]) = G4 at s5 ht2' ht3' hr1'' hma1'
        have ho4 := s5 _ _ (k2 _ _ ho nmo.symm)
        have k5 : ∀ y u, H y = some u → y ≠ m → y ≠ o → (upd G4 o (.lst (rs ++ [.ref t3]))) y = some u := fun y u hy h1 h2 => lift (s5 _ _ (k2 y u hy h1)) h2
        have kk5 : Keep G4 (upd G4 o (.lst (rs ++ [.ref t3]))) := fun u us h => lift h (ne_of h ho4 (by intro z; cases z))
        have em5 : (upd G4 o (.lst (rs ++ [.ref t3]))) m = some (.lst [.int x, .int st.b, .ref kl]) := lift (s5 _ _ e2) nmo
        have eo5 : (upd G4 o (.lst (rs ++ [.ref t3]))) o = some (.lst (rs ++ [.ref t3])) := upd_same
        have ht2f := kk5 _ _ ht2'
        have ht3f := kk5 _ _ ht3'
        have hr1f := kk5 _ _ hr1''
        have hma1f := ma_keep kk5 hma1'
        have kH5 : Keep H (upd G4 o (.lst (rs ++ [.ref t3]))) := fun u us h => kk5 _ _ (s5 _ _ (kk2 _ _ h))
        generalize upd G4 o (.lst (rs ++ [.ref t3])) = G5 at k5 em5 eo5 ht2f ht3f hr1f hma1f kH5
        have hp5 := k5 _ _ hp npm npo
        refine ⟨_, rfl, p, dx, _, rfl, hp5, rfl, _, rfl, _, rfl, p, d, st.pr, st.b, x, s, kvs, es', rfl, ⟨⟨dx, hp5⟩, k5 _ _ hd ndm ndo⟩, ka_keep kH5 hka, len', nd', rg', fun z => absurd z hx, fun _ u r2 ys2 G6 hu hacc hu' hr2 hma2 k6 => ?_⟩
        have kk6 : Keep G5 G6 := keep_of (fun xs => by rw [hp5]; intro z; cases z) k6
        have kH6 : Keep H G6 := kH5.trans kk6
        have ev6 : ∀ e ∈ st.es, VA3 G6 e.2.2 := fun e he => va3_keep kH6 (hW.ev e he)
        rw [rows_perm hperm nd' s] at hma2
        obtain ⟨ds, hds, hfl⟩ := rows_data (K := K) (es := rowsOf st.es s) (H := G6) (fun e he => ev6 e (rowsOf_mem he))
        have dp2 : Dp K G6 (.ref u) (.tuple [.str "promise", .int x, .int st.b, .tuple ds]) := .tup (sqt hu') (.cons (.str _) (.cons (.int _) (.cons (.int _) (.cons (.tup (sqt hr2) (hds _ hma2)) .nil))))
        have dp1 : Dp K G6 (.ref t2) (.tuple [.str "promise", .int x, .int st.b, .tuple ds]) := .tup (sqt (kk6 _ _ ht2f)) (.cons (.str _) (.cons (.int _) (.cons (.int _) (.cons (.tup (sqt (kk6 _ _ hr1f)) (hds _ (ma_keep kk6 hma1f))) .nil))))
        have fl : Flat 4 (.tuple [.str "promise", .int x, .int st.b, .tuple ds]) := flat_tup fun d hd => by
          simp only [List.mem_cons, List.not_mem_nil, or_false] at hd
          rcases hd with rfl | rfl | rfl | rfl
          · exact flat_str 3 _
          · exact flat_int 3 _
          · exact flat_int 3 _
          · exact flat_tup hfl
        have sh := fl.sh (by decide)
        refine ⟨_, rfl, _, _, dp2, dp1, sh, sh, ?_⟩
        rw [eqv_self sh]
        have hst : stp st (.pro x) = ⟨x, st.b, st.es⟩ := by show AS.mk _ _ _ = _; rw [mx_ge hx]
        refine q d kl ⟨x, st.b, st.es⟩ xs (rs ++ [.ref t3]) (rcs ++ [.pro x]) G6 ⟨⟨kvs, es', hacc, ka_keep kH6 hka, hperm⟩, ⟨k6 _ _ em5 npm.symm, k6 _ _ (k5 _ _ hkl nmk.symm nko) npk.symm, ma_keep kH6 hma, nmk⟩, k6 _ _ eo5 npo.symm, recs_app (r := .pro x) ⟨t3, rfl, kk6 _ _ ht3f⟩ (recs_keep kH6 hW.rc), nmo, nko, wf_mono ⟨hW.wf.nd, hW.wf.rg, hW.wf.ln⟩ (Nat.le_succ n), ev6, by rw [List.length_append]; exact Nat.succ_le_succ hW.rl, by rw [List.foldl_append, hW.st0]; exact hst⟩ fun y u hy h1 h2 h3 h4 => k6 _ _ (k5 y u hy h3 h4) h1
      · have hx : x < st.pr := by omega
        refine ⟨_, rfl, p, dx, _, rfl, s1 _ _ hp, rfl, _, rfl, _, rfl, p, d, st.pr, st.b, x, s, kvs, es', rfl, ⟨⟨dx, s1 _ _ hp⟩, s1 _ _ hd⟩, ka_keep (fun u us h => s1 _ _ h) hka, len', nd', rg', fun _ u G6 hu s6 hu' => ?_, fun z => absurd hx z⟩
        have sA := s1.trans s6
        have kA : Keep H G6 := fun u us h => sA _ _ h
        have fl : Flat 1 (.tuple [.str "refuse", .int st.pr]) := flat_tup fun d hd => by
          simp only [List.mem_cons, List.not_mem_nil, or_false] at hd
          rcases hd with rfl | rfl
          · exact flat_str 0 _
          · exact flat_int 0 _
        have sh := fl.sh (by decide)
        refine ⟨_, rfl, _, _, .tup (sqt hu') (.cons (.str _) (.cons (.int _) .nil)), .tup (sqt (s6 _ _ e1)) (.cons (.str _) (.cons (.int _) .nil)), sh, sh, ?_⟩
        rw [eqv_self sh]
        refine q d kl st xs rs rcs G6 ⟨⟨kvs, es', ⟨⟨dx, sA _ _ hp⟩, sA _ _ hd⟩, ka_keep kA hka, hperm⟩, ⟨sA _ _ hm, sA _ _ hkl, ma_keep kA hma, nmk⟩, sA _ _ ho, recs_keep kA hW.rc, nmo, nko, wf_mono hW.wf (Nat.le_succ n), fun e he => va3_keep kA (hW.ev e he), Nat.le_succ_of_le hW.rl, hW.st0⟩ fun y u hy _ _ _ _ => sA _ _ hy
    refine ⟨_, rfl, _, _, rfl, rfl, _, rfl, ifd (fun c2 => ?_) (fun c2 => ?_)⟩
    · -- accept
      refine ⟨_, rfl, _, rfl, _, rfl, _, rfl, m, kl, st.pr, st.b, x, s, v, xs, st.es, rfl, ⟨hm, hkl, hma, nmk⟩, hest, fun hx t1 G1 ht1 s1 e1 => ?_, fun hx hb t1 G1 ht1 hM1 e1 k1 => ?_, fun hx hb t1 kl' ys G1 ht1 hkl' hM1 e1 k1 => ?_⟩
      · refine ⟨_, rfl, t1, _, 0, .str "refuse", rfl, rfl, sqt e1, rfl, rfl, _, rfl, iff0 (fun z => absurd (V.str.inj z) (by decide)) ?_⟩
        refine ⟨_, rfl, t1, _, 0, .str "refuse", rfl, rfl, sqt e1, rfl, rfl, _, rfl, iff0 (fun z => absurd (V.str.inj z) (by decide)) ?_⟩
        refine ⟨_, rfl, p, dx, _, rfl, s1 _ _ hp, rfl, _, rfl, _, rfl, _, rfl, p, d, st.pr, st.b, x, s, v, kvs, rfl, ⟨⟨dx, s1 _ _ hp⟩, s1 _ _ hd⟩, kle, fun _ u G6 hu s6 hu' => ?_, fun z => absurd hx z, fun z => absurd hx z⟩
        have sA := s1.trans s6
        have kA : Keep H G6 := fun u us h => sA _ _ h
        have fl : Flat 1 (.tuple [.str "refuse", .int st.pr]) := flat_tup fun d hd => by
          simp only [List.mem_cons, List.not_mem_nil, or_false] at hd
          rcases hd with rfl | rfl
          · exact flat_str 0 _
          · exact flat_int 0 _
        have sh := fl.sh (by decide)
        refine ⟨_, rfl, _, _, .tup (sqt hu') (.cons (.str _) (.cons (.int _) .nil)), .tup (sqt (s6 _ _ e1)) (.cons (.str _) (.cons (.int _) .nil)), sh, sh, ?_⟩
        rw [eqv_self sh]
        refine q d kl st xs rs rcs G6 ⟨⟨kvs, es', ⟨⟨dx, sA _ _ hp⟩, sA _ _ hd⟩, ka_keep kA hka, hperm⟩, ⟨sA _ _ hm, sA _ _ hkl, ma_keep kA hma, nmk⟩, sA _ _ ho, recs_keep kA hW.rc, nmo, nko, wf_mono hW.wf (Nat.le_succ n), fun e he => va3_keep kA (hW.ev e he), Nat.le_succ_of_le hW.rl, hW.st0⟩ fun y u hy _ _ _ _ => sA _ _ hy
      · refine ⟨_, rfl, t1, _, 0, .str "decided", rfl, rfl, sqt e1, rfl, rfl, _, rfl, iff0 (fun z => absurd (V.str.inj z) (by decide)) ?_⟩
        refine ⟨_, rfl, t1, _, 0, .str "decided", rfl, rfl, sqt e1, rfl, rfl, _, rfl, ift rfl ?_⟩
        have ho1 := k1 _ _ ho nmo.symm
        refine ⟨_, rfl, .inl ⟨rfl, _, sql ho1⟩, _, rfl, (by show 2 ≤ sizeLine; decide), fun t3 ht3 => ⟨o, rs, .ref t3, rfl, rfl, same_upd ht3 _ _ ho1, szl (by omega), ?_⟩⟩
        have s3 : Same G1 (upd G1 t3 (.tup [.str "promised", .int x])) := same_upd ht3
        have e3 : (upd G1 t3 (.tup [.str "promised", .int x])) t3 = some (.tup [.str "promised", .int x]) := upd_same
        generalize upd G1 t3 (.tup [.str "promised", .int x]) = G3 at s3 e3
        have ho3 := s3 _ _ ho1
        have k5 : ∀ y u, H y = some u → y ≠ m → y ≠ o → (upd G3 o (.lst (rs ++ [.ref t3]))) y = some u := fun y u hy h1 h2 => lift (s3 _ _ (k1 y u hy h1)) h2
        have kk5 : Keep G1 (upd G3 o (.lst (rs ++ [.ref t3]))) := fun u us h => lift (s3 _ _ h) (ne_of (s3 _ _ h) ho3 (by intro z; cases z))
        have em5 : (upd G3 o (.lst (rs ++ [.ref t3]))) m = some (.lst [.int x, .int st.b, .ref kl]) := lift (s3 _ _ hM1.mo) nmo
        have eo5 : (upd G3 o (.lst (rs ++ [.ref t3]))) o = some (.lst (rs ++ [.ref t3])) := upd_same
        have et5 : (upd G3 o (.lst (rs ++ [.ref t3]))) t3 = some (.tup [.str "promised", .int x]) := lift e3 (ne_of e3 ho3 (by intro z; cases z))
        have kH1 : Keep H G1 := keep_of (fun xs => by rw [hm]; intro z; cases z) k1
        have kH5 := kH1.trans kk5
        have e15 := kk5 _ _ e1
        generalize upd G3 o (.lst (rs ++ [.ref t3])) = G5 at k5 kk5 em5 eo5 et5 kH5 e15
        have hp5 := k5 _ _ hp npm npo
        refine ⟨_, rfl, p, dx, _, rfl, hp5, rfl, _, rfl, _, rfl, _, rfl, p, d, st.pr, st.b, x, s, v, kvs, rfl, ⟨⟨dx, hp5⟩, k5 _ _ hd ndm ndo⟩, kle, fun z => absurd z hx, fun _ _ u G6 hu hacc hu' k6 => ?_, fun _ z => absurd hb z⟩
        have kk6 : Keep G5 G6 := keep_of (fun xs => by rw [hp5]; intro z; cases z) k6
        have kH6 : Keep H G6 := kH5.trans kk6
        have fl : Flat 1 (.tuple [.str "decided", .int st.b]) := flat_tup fun d hd => by
          simp only [List.mem_cons, List.not_mem_nil, or_false] at hd
          rcases hd with rfl | rfl
          · exact flat_str 0 _
          · exact flat_int 0 _
        have sh := fl.sh (by decide)
        refine ⟨_, rfl, _, _, .tup (sqt hu') (.cons (.str _) (.cons (.int _) .nil)), .tup (sqt (kk6 _ _ e15)) (.cons (.str _) (.cons (.int _) .nil)), sh, sh, ?_⟩
        rw [eqv_self sh]
        have hst : stp st (.pro x) = ⟨x, st.b, st.es⟩ := by show AS.mk _ _ _ = _; rw [mx_ge hx]
        refine q d kl ⟨x, st.b, st.es⟩ xs (rs ++ [.ref t3]) (rcs ++ [.pro x]) G6 ⟨⟨kvs, es', hacc, ka_keep kH6 hka, hperm⟩, ⟨k6 _ _ em5 npm.symm, k6 _ _ (k5 _ _ hkl nmk.symm nko) npk.symm, ma_keep kH6 hma, nmk⟩, k6 _ _ eo5 npo.symm, recs_app (r := .pro x) ⟨t3, rfl, kk6 _ _ et5⟩ (recs_keep kH6 hW.rc), nmo, nko, wf_mono ⟨hW.wf.nd, hW.wf.rg, hW.wf.ln⟩ (Nat.le_succ n), fun e he => va3_keep kH6 (hW.ev e he), by rw [List.length_append]; exact Nat.succ_le_succ hW.rl, by rw [List.foldl_append, hW.st0]; exact hst⟩ fun y u hy h1 h2 h3 h4 => k6 _ _ (k5 y u hy h3 h4) h1
      · refine ⟨_, rfl, t1, _, 0, .str "accepted", rfl, rfl, sqt e1, rfl, rfl, _, rfl, ift rfl ?_⟩
        have ho1 := k1 _ _ ho nmo.symm
        refine ⟨_, rfl, .inl ⟨rfl, _, sql ho1⟩, _, rfl, _, rfl, _, rfl, (by show 4 ≤ sizeLine; decide), fun t3 ht3 => ⟨o, rs, .ref t3, rfl, rfl, same_upd ht3 _ _ ho1, szl (by omega), ?_⟩⟩
        have s3 : Same G1 (upd G1 t3 (.tup [.str "accepted", .int x, .int s, v])) := same_upd ht3
        have e3 : (upd G1 t3 (.tup [.str "accepted", .int x, .int s, v])) t3 = some (.tup [.str "accepted", .int x, .int s, v]) := upd_same
        generalize upd G1 t3 (.tup [.str "accepted", .int x, .int s, v]) = G3 at s3 e3
        have ho3 := s3 _ _ ho1
        have nko' : kl' ≠ o := (ne_of_none ho hkl').symm
        have k5 : ∀ y u, H y = some u → y ≠ m → y ≠ o → (upd G3 o (.lst (rs ++ [.ref t3]))) y = some u := fun y u hy h1 h2 => lift (s3 _ _ (k1 y u hy h1)) h2
        have kk5 : Keep G1 (upd G3 o (.lst (rs ++ [.ref t3]))) := fun u us h => lift (s3 _ _ h) (ne_of (s3 _ _ h) ho3 (by intro z; cases z))
        have em5 : (upd G3 o (.lst (rs ++ [.ref t3]))) m = some (.lst [.int x, .int st.b, .ref kl']) := lift (s3 _ _ hM1.mo) nmo
        have ek5 : (upd G3 o (.lst (rs ++ [.ref t3]))) kl' = some (.lst ys) := lift (s3 _ _ hM1.ko) nko'
        have eo5 : (upd G3 o (.lst (rs ++ [.ref t3]))) o = some (.lst (rs ++ [.ref t3])) := upd_same
        have et5 : (upd G3 o (.lst (rs ++ [.ref t3]))) t3 = some (.tup [.str "accepted", .int x, .int s, v]) := lift e3 (ne_of e3 ho3 (by intro z; cases z))
        have kH1 : Keep H G1 := keep_of (fun xs => by rw [hm]; intro z; cases z) k1
        have kH5 := kH1.trans kk5
        have e15 := kk5 _ _ e1
        have hma5 := ma_keep kk5 hM1.ea
        generalize upd G3 o (.lst (rs ++ [.ref t3])) = G5 at k5 kk5 em5 ek5 eo5 et5 kH5 e15 hma5
        have hp5 := k5 _ _ hp npm npo
        have hd5 := k5 _ _ hd ndm ndo
        refine ⟨_, rfl, t1, _, 0, .str "accepted", rfl, rfl, sqt e15, rfl, rfl, _, rfl, iff0 (fun z => absurd (V.str.inj z) (by decide)) ?_⟩
        refine ⟨_, rfl, p, dx, _, rfl, hp5, rfl, _, rfl, _, rfl, _, rfl, p, d, st.pr, st.b, x, s, v, kvs, rfl, ⟨⟨dx, hp5⟩, hd5⟩, kle, fun z => absurd z hx, fun _ z => absurd z hb, fun _ _ t u G6 ht hu hacc ht' hu' k6 => ?_⟩
        have kk6 : Keep G5 G6 := fun y us h => k6 y _ h (ne_of h hp5 (by intro z; cases z)) (ne_of h hd5 (by intro z; cases z))
        have kH6 : Keep H G6 := kH5.trans kk6
        have fl : Flat 1 (.tuple [.str "accepted", .int x, .int s]) := flat_tup fun d hd => by
          simp only [List.mem_cons, List.not_mem_nil, or_false] at hd
          rcases hd with rfl | rfl | rfl
          · exact flat_str 0 _
          · exact flat_int 0 _
          · exact flat_int 0 _
        have sh := fl.sh (by decide)
        refine ⟨_, rfl, _, _, .tup (sqt hu') (.cons (.str _) (.cons (.int _) (.cons (.int _) .nil))), .tup (sqt (kk6 _ _ e15)) (.cons (.str _) (.cons (.int _) (.cons (.int _) .nil))), sh, sh, ?_⟩
        rw [eqv_self sh]
        have hst : stp st (.acc x s v) = ⟨x, st.b, putE st.es s x v⟩ := by show AS.mk _ _ _ = _; rw [mx_ge hx, if_neg hb]
        refine q d kl' ⟨x, st.b, putE st.es s x v⟩ ys (rs ++ [.ref t3]) (rcs ++ [.acc x s v]) G6 ⟨⟨_, putL es' s x v, hacc, ka_put ht' (ka_keep kH6 hka), (putL_perm nd' s x v).trans (putE_perm hperm s x v)⟩, ⟨k6 _ _ em5 npm.symm ndm.symm, k6 _ _ ek5 (ne_of ek5 hp5 (by intro z; cases z)) (ne_of ek5 hd5 (by intro z; cases z)), ma_keep kk6 hma5, hM1.ne⟩, k6 _ _ eo5 npo.symm ndo.symm, recs_app (r := .acc x s v) ⟨t3, rfl, kk6 _ _ et5⟩ (recs_keep kH6 hW.rc), nmo, nko', wf_put hW.wf hs0 hs40, va_put (fun e he => va3_keep kH6 (hW.ev e he)) (va3_keep kH6 hv), by rw [List.length_append]; exact Nat.succ_le_succ hW.rl, by rw [List.foldl_append, hW.st0]; exact hst⟩ fun y u hy h1 h2 h3 h4 => k6 _ _ (k5 y u hy h3 h4) h1 h2
    refine ⟨_, rfl, rfl, _, rfl, ifd (fun c3 => ?_) (fun c3 => ?_)⟩
    · -- cut
      refine ⟨_, rfl, _, rfl, m, _, 1, _, rfl, rfl, sql hm, rfl, _, _, rfl, rfl, _, rfl, ifd (fun hb => ?_) (fun hb => ?_)⟩
      · refine ⟨_, rfl, _, rfl, m, _, 1, 1, rfl, rfl, hm, rfl, ?_⟩
        have hset : [V.int st.pr, V.int st.b, V.ref kl].set 1 (V.int s) = [V.int st.pr, V.int s, V.ref kl] := rfl
        rw [hset]
        have k1 : ∀ y u, H y = some u → y ≠ m → (upd H m (.lst [.int st.pr, .int s, .ref kl])) y = some u := fun y u hy h => lift hy h
        have e1 : (upd H m (.lst [.int st.pr, .int s, .ref kl])) m = some (.lst [.int st.pr, .int s, .ref kl]) := upd_same
        have f1 : ∀ y, (upd H m (.lst [.int st.pr, .int s, .ref kl])) y = none → H y = none := fun y hy => by
          have ny : y ≠ m := fun z => by rw [z, upd_same] at hy; cases hy
          rw [upd_ne ny] at hy
          exact hy
        generalize upd H m (.lst [.int st.pr, .int s, .ref kl]) = G1 at k1 e1 f1
        have kH1 : Keep H G1 := keep_of (fun xs => by rw [hm]; intro z; cases z) k1
        dsimp only [L2.tNext, L2.tSeq, L2.tAsg]
        refine lc_ents (K := K) (s := 9) kl xs st.es (fun e => decide (e.1 ≥ s)) (k1 _ _ hkl nmk.symm) (ma_keep kH1 hma) (by rw [ma_len hma]; omega) (fun R hR => ⟨_, rfl, m, _, 2, _, rfl, rfl, sql e1, rfl, kl, rfl, ⟨_, sql (k1 _ _ hkl nmk.symm)⟩, hR⟩) (fun _ => rfl) (fun y e J Q' hy sJ hq => ?_) (fun y J Q' hq => ⟨_, rfl, hq⟩) (fun D J ys hD sJ hDJ hmJ => ?_)
        · obtain ⟨t, rfl, ht⟩ := hy
          exact ⟨_, rfl, t, _, 0, _, rfl, rfl, sqt ht, rfl, _, rfl, _, _, rfl, rfl, _, rfl, hq⟩
        · have e1J := sJ _ _ e1
          refine ⟨_, rfl, m, _, 2, 2, rfl, rfl, e1J, rfl, ?_⟩
          have hset2 : [V.int st.pr, V.int s, V.ref kl].set 2 (V.ref D) = [V.int st.pr, V.int s, V.ref D] := rfl
          rw [hset2]
          have hmk2 : (upd J m (.lst [.int st.pr, .int s, .ref D])) m = some (.lst [.int st.pr, .int s, .ref D]) := upd_same
          have nDm : D ≠ m := ne_of_none e1 hD |>.symm
          have hDJ2 : (upd J m (.lst [.int st.pr, .int s, .ref D])) D = some (.lst ys) := lift hDJ nDm
          have k2 : ∀ y u, H y = some u → y ≠ m → (upd J m (.lst [.int st.pr, .int s, .ref D])) y = some u := fun y u hy h => lift (sJ _ _ (k1 y u hy h)) h
          have kJ2 : Keep J (upd J m (.lst [.int st.pr, .int s, .ref D])) := fun u us h => lift h (ne_of h e1J (by intro z; cases z))
          have hm2 := ma_keep kJ2 hmJ
          have kH2 : Keep H (upd J m (.lst [.int st.pr, .int s, .ref D])) := fun u us h => kJ2 _ _ (sJ _ _ (kH1 _ _ h))
          generalize upd J m (.lst [.int st.pr, .int s, .ref D]) = G2 at hmk2 hDJ2 k2 kJ2 hm2 kH2
          have ho2 := k2 _ _ ho nmo.symm
          have nDo : D ≠ o := (ne_of_none ho (f1 D hD)).symm
          have nDp : D ≠ p := (ne_of_none hp (f1 D hD)).symm
          refine ⟨_, rfl, .inl ⟨rfl, _, sql ho2⟩, _, rfl, (by show 2 ≤ sizeLine; decide), fun t3 ht3 => ⟨o, rs, .ref t3, rfl, rfl, same_upd ht3 _ _ ho2, szl (by omega), ?_⟩⟩
          have s3 : Same G2 (upd G2 t3 (.tup [.str "cut", .int s])) := same_upd ht3
          have e3 : (upd G2 t3 (.tup [.str "cut", .int s])) t3 = some (.tup [.str "cut", .int s]) := upd_same
          generalize upd G2 t3 (.tup [.str "cut", .int s]) = G3 at s3 e3
          have ho3 := s3 _ _ ho2
          have k5 : ∀ y u, H y = some u → y ≠ m → y ≠ o → (upd G3 o (.lst (rs ++ [.ref t3]))) y = some u := fun y u hy h1 h2 => lift (s3 _ _ (k2 y u hy h1)) h2
          have kk5 : Keep G2 (upd G3 o (.lst (rs ++ [.ref t3]))) := fun u us h => lift (s3 _ _ h) (ne_of (s3 _ _ h) ho3 (by intro z; cases z))
          have em5 : (upd G3 o (.lst (rs ++ [.ref t3]))) m = some (.lst [.int st.pr, .int s, .ref D]) := lift (s3 _ _ hmk2) nmo
          have eD5 : (upd G3 o (.lst (rs ++ [.ref t3]))) D = some (.lst ys) := lift (s3 _ _ hDJ2) nDo
          have eo5 : (upd G3 o (.lst (rs ++ [.ref t3]))) o = some (.lst (rs ++ [.ref t3])) := upd_same
          have et5 : (upd G3 o (.lst (rs ++ [.ref t3]))) t3 = some (.tup [.str "cut", .int s]) := lift e3 (ne_of e3 ho3 (by intro z; cases z))
          have kH5 := kH2.trans kk5
          have hma5 := ma_keep kk5 hm2
          generalize upd G3 o (.lst (rs ++ [.ref t3])) = G5 at k5 kk5 em5 eD5 eo5 et5 kH5 hma5
          have hp5 := k5 _ _ hp npm npo
          have hd5 := k5 _ _ hd ndm ndo
          refine ⟨_, rfl, p, dx, _, rfl, hp5, rfl, _, rfl, p, d, st.pr, st.b, s, kvs, rfl, ⟨⟨dx, hp5⟩, hd5⟩, kle, ka_ints hka, ka_nd hka nd', fun z => absurd hb z, fun _ d' G6 hd' hacc k6 => ?_⟩
          have kk6 : Keep G5 G6 := keep_of (fun xs => by rw [hp5]; intro z; cases z) k6
          have kH6 := kH5.trans kk6
          have hst : stp st (.cut s) = ⟨st.pr, s, st.es.filter fun e => decide (e.1 ≥ s)⟩ := by show (if st.b < s then _ else _) = _; rw [if_pos hb]
          refine q d' D ⟨st.pr, s, st.es.filter fun e => decide (e.1 ≥ s)⟩ ys (rs ++ [.ref t3]) (rcs ++ [.cut s]) G6 ⟨⟨_, es'.filter fun e => decide (e.1 ≥ s), hacc, ka_keep0 (ka_keep kH6 hka), hperm.filter _⟩, ⟨k6 _ _ em5 npm.symm, k6 _ _ eD5 nDp, ma_keep kk6 hma5, nDm.symm⟩, k6 _ _ eo5 npo.symm, recs_app (r := .cut s) ⟨t3, rfl, kk6 _ _ et5⟩ (recs_keep kH6 hW.rc), nmo, nDo, wf_mono (wf_flt _ hW.wf) (Nat.le_succ n), fun e he => va3_keep kH6 (hW.ev e (List.mem_filter.mp he).1), by rw [List.length_append]; exact Nat.succ_le_succ hW.rl, by rw [List.foldl_append, hW.st0]; exact hst⟩ fun y u hy h1 h2 h3 h4 => k6 _ _ (k5 y u hy h3 h4) h1
      · refine ⟨_, rfl, .inl ⟨rfl, _, sql ho⟩, _, rfl, (by show 2 ≤ sizeLine; decide), fun t3 ht3 => ⟨o, rs, .ref t3, rfl, rfl, same_upd ht3 _ _ ho, szl (by omega), ?_⟩⟩
        have s3 : Same H (upd H t3 (.tup [.str "cut", .int s])) := same_upd ht3
        have e3 : (upd H t3 (.tup [.str "cut", .int s])) t3 = some (.tup [.str "cut", .int s]) := upd_same
        generalize upd H t3 (.tup [.str "cut", .int s]) = G3 at s3 e3
        have ho3 := s3 _ _ ho
        have k5 : ∀ y u, H y = some u → y ≠ o → (upd G3 o (.lst (rs ++ [.ref t3]))) y = some u := fun y u hy h2 => lift (s3 _ _ hy) h2
        have eo5 : (upd G3 o (.lst (rs ++ [.ref t3]))) o = some (.lst (rs ++ [.ref t3])) := upd_same
        have et5 : (upd G3 o (.lst (rs ++ [.ref t3]))) t3 = some (.tup [.str "cut", .int s]) := lift e3 (ne_of e3 ho3 (by intro z; cases z))
        have kH5 : Keep H (upd G3 o (.lst (rs ++ [.ref t3]))) := keep_of (fun xs => by rw [ho]; intro z; cases z) k5
        generalize upd G3 o (.lst (rs ++ [.ref t3])) = G5 at k5 eo5 et5 kH5
        have hp5 := k5 _ _ hp npo
        have hd5 := k5 _ _ hd ndo
        refine ⟨_, rfl, p, dx, _, rfl, hp5, rfl, _, rfl, p, d, st.pr, st.b, s, kvs, rfl, ⟨⟨dx, hp5⟩, hd5⟩, kle, ka_ints hka, ka_nd hka nd', fun _ => ?_, fun z => absurd z hb⟩
        have hst : stp st (.cut s) = st := by show (if st.b < s then _ else _) = _; rw [if_neg hb]
        refine q d kl st xs (rs ++ [.ref t3]) (rcs ++ [.cut s]) G5 ⟨⟨kvs, es', ⟨⟨dx, hp5⟩, hd5⟩, ka_keep kH5 hka, hperm⟩, ⟨k5 _ _ hm nmo, k5 _ _ hkl nko, ma_keep kH5 hma, nmk⟩, eo5, recs_app (r := .cut s) ⟨t3, rfl, et5⟩ (recs_keep kH5 hW.rc), nmo, nko, wf_mono hW.wf (Nat.le_succ n), fun e he => va3_keep kH5 (hW.ev e he), by rw [List.length_append]; exact Nat.succ_le_succ hW.rl, by rw [List.foldl_append, hW.st0]; exact hst⟩ fun y u hy h1 h2 h3 h4 => k5 y u hy h4
    · -- replay
      refine ⟨_, rfl, (by show 2 ≤ sizeLine; decide), fun t1 ht1 => ⟨_, rfl, _, rfl, _, rfl, (by show 4 ≤ sizeLine; decide), fun t2 ht2 => ⟨_, rfl, Nat.zero_le _, fun te hte => ⟨(by show 3 ≤ sizeLine; decide), fun t3 ht3 => ⟨(by show 3 ≤ sizeLine; decide), fun l hl => ?_⟩⟩⟩⟩⟩
      have n21 : t2 ≠ t1 := fun z => by rw [z, upd_same] at ht2; cases ht2
      have s1 := same_upd (o := .tup [.str "promised", .int x]) ht1
      have s2 := s1.trans (same_upd (o := .tup [.str "accepted", .int x, .int s, v]) ht2)
      have s3 := s2.trans (same_upd (o := .tup []) hte)
      have s4 := s3.trans (same_upd (o := .tup [.str "image", .int s, .ref te]) ht3)
      have sG := s4.trans (same_upd (o := .lst [.ref t1, .ref t2, .ref t3]) hl)
      have a1 := same_upd (o := .lst [.ref t1, .ref t2, .ref t3]) hl _ _ (same_upd (o := .tup [.str "image", .int s, .ref te]) ht3 _ _ (same_upd (o := .tup []) hte _ _ (same_upd (o := .tup [.str "accepted", .int x, .int s, v]) ht2 _ _ (upd_same (H := H) (a := t1) (o := .tup [.str "promised", .int x])))))
      have a2 := same_upd (o := .lst [.ref t1, .ref t2, .ref t3]) hl _ _ (same_upd (o := .tup [.str "image", .int s, .ref te]) ht3 _ _ (same_upd (o := .tup []) hte _ _ (upd_same (H := upd H t1 (.tup [.str "promised", .int x])) (a := t2) (o := .tup [.str "accepted", .int x, .int s, v]))))
      have a3 := same_upd (o := .lst [.ref t1, .ref t2, .ref t3]) hl _ _ (upd_same (H := upd (upd (upd H t1 (.tup [.str "promised", .int x])) t2 (.tup [.str "accepted", .int x, .int s, v])) te (.tup [])) (a := t3) (o := .tup [.str "image", .int s, .ref te]))
      have al : (upd (upd (upd (upd (upd H t1 (.tup [.str "promised", .int x])) t2 (.tup [.str "accepted", .int x, .int s, v])) te (.tup [])) t3 (.tup [.str "image", .int s, .ref te])) l (.lst [.ref t1, .ref t2, .ref t3])) l = some (.lst [.ref t1, .ref t2, .ref t3]) := upd_same
      generalize upd (upd (upd (upd (upd H t1 (.tup [.str "promised", .int x])) t2 (.tup [.str "accepted", .int x, .int s, v])) te (.tup [])) t3 (.tup [.str "image", .int s, .ref te])) l (.lst [.ref t1, .ref t2, .ref t3]) = G at sG a1 a2 a3 al
      have kG : Keep H G := fun u us h => sG _ _ h
      have hm1 := sG _ _ hm
      have ho1 := sG _ _ ho
      have hkl1 := sG _ _ hkl
      have hp1 := sG _ _ hp
      have hd1 := sG _ _ hd
      have hma1 := ma_keep kG hma
      have key : ∃ t rc, atI [V.ref t1, V.ref t2, V.ref t3] (x % 3) = some (.ref t) ∧ RecAt K G t rc ∧ (rc = .pro x ∨ rc = .acc x s v ∨ rc = .img s) := by
        have h3 : x % 3 = 0 ∨ x % 3 = 1 ∨ x % 3 = 2 := by omega
        rcases h3 with h | h | h
        · exact ⟨t1, .pro x, by rw [h]; rfl, a1, .inl rfl⟩
        · exact ⟨t2, .acc x s v, by rw [h]; rfl, a2, .inr (.inl rfl)⟩
        · exact ⟨t3, .img s, by rw [h]; rfl, ⟨_, a3⟩, .inr (.inr rfl)⟩
      obtain ⟨t, rc, hat, hrt, hrc⟩ := key
      refine ⟨_, rfl, _, _, rfl, rfl, (by show (0 : Int) < _; decide), l, _, _, _, rfl, rfl, sql al, hat, ?_⟩
      rcases hrc with rfl | rfl | rfl
      · have hrt2 : G t = some (.tup [.str "promised", .int x]) := hrt
        refine ⟨_, rfl, t, _, 0, .str "promised", rfl, rfl, sqt hrt2, rfl, rfl, _, rfl, ifn (fun _ => ?_) (fun z => absurd (V.str.inj z) (by decide))⟩
        refine ⟨_, rfl, m, _, 0, _, rfl, rfl, sql hm1, rfl, _, rfl, st.pr, x, rfl, _, rfl, m, _, 0, 0, rfl, rfl, hm1, rfl, ?_⟩
        have hset : [V.int st.pr, V.int st.b, V.ref kl].set 0 (V.int (if x > st.pr then x else st.pr)) = [V.int (mx x st.pr), V.int st.b, V.ref kl] := rfl
        rw [hset]
        have k2 : ∀ y u, H y = some u → y ≠ m → (upd G m (.lst [.int (mx x st.pr), .int st.b, .ref kl])) y = some u := fun y u hy h => lift (sG _ _ hy) h
        have em2 : (upd G m (.lst [.int (mx x st.pr), .int st.b, .ref kl])) m = some (.lst [.int (mx x st.pr), .int st.b, .ref kl]) := upd_same
        have et2 : (upd G m (.lst [.int (mx x st.pr), .int st.b, .ref kl])) t = some (.tup [.str "promised", .int x]) := lift hrt2 (ne_of hrt2 hm1 (by intro z; cases z))
        generalize upd G m (.lst [.int (mx x st.pr), .int st.b, .ref kl]) = G2 at k2 em2 et2
        refine ⟨_, rfl, t, _, 0, .str "promised", rfl, rfl, sqt et2, rfl, rfl, _, rfl, iff0 (fun z => absurd (V.str.inj z) (by decide)) ((if_neg Bool.false_ne_true).mpr ?_)⟩
        have ho2 := k2 _ _ ho nmo.symm
        refine ⟨_, rfl, .inl ⟨rfl, _, sql ho2⟩, _, rfl, o, rs, .ref t, rfl, rfl, ho2, szl (by omega), ?_⟩
        have k5 : ∀ y u, H y = some u → y ≠ m → y ≠ o → (upd G2 o (.lst (rs ++ [.ref t]))) y = some u := fun y u hy h1 h2 => lift (k2 y u hy h1) h2
        have em5 : (upd G2 o (.lst (rs ++ [.ref t]))) m = some (.lst [.int (mx x st.pr), .int st.b, .ref kl]) := lift em2 nmo
        have eo5 : (upd G2 o (.lst (rs ++ [.ref t]))) o = some (.lst (rs ++ [.ref t])) := upd_same
        have et5 : (upd G2 o (.lst (rs ++ [.ref t]))) t = some (.tup [.str "promised", .int x]) := lift et2 (ne_of et2 ho2 (by intro z; cases z))
        have kH5 : Keep H (upd G2 o (.lst (rs ++ [.ref t]))) := fun u us h => k5 u _ h (ne_of h hm (by intro z; cases z)) (ne_of h ho (by intro z; cases z))
        generalize upd G2 o (.lst (rs ++ [.ref t])) = G5 at k5 em5 eo5 et5 kH5
        have hp5 := k5 _ _ hp npm npo
        have hd5 := k5 _ _ hd ndm ndo
        refine ⟨_, rfl, p, dx, _, rfl, hp5, rfl, _, rfl, p, d, t, st.pr, st.b, kvs, .pro x, rfl, ⟨⟨dx, hp5⟩, hd5⟩, kle, et5, fun G6 hacc k6 => ?_⟩
        have kk6 : Keep G5 G6 := keep_of (fun xs => by rw [hp5]; intro z; cases z) k6
        have kH6 := kH5.trans kk6
        refine q d kl (stp st (.pro x)) xs (rs ++ [.ref t]) (rcs ++ [.pro x]) G6 ⟨⟨kvs, es', hacc, ka_keep kH6 hka, hperm⟩, ⟨k6 _ _ em5 npm.symm, k6 _ _ (k5 _ _ hkl nmk.symm nko) npk.symm, ma_keep kH6 hma, nmk⟩, k6 _ _ eo5 npo.symm, recs_app (r := .pro x) ⟨t, rfl, kk6 _ _ et5⟩ (recs_keep kH6 hW.rc), nmo, nko, wf_mono ⟨hW.wf.nd, hW.wf.rg, hW.wf.ln⟩ (Nat.le_succ n), fun e he => va3_keep kH6 (hW.ev e he), by rw [List.length_append]; exact Nat.succ_le_succ hW.rl, by rw [List.foldl_append, hW.st0]; rfl⟩ fun y u hy h1 h2 h3 h4 => k6 _ _ (k5 y u hy h3 h4) h1
      · have hrt2 : G t = some (.tup [.str "accepted", .int x, .int s, v]) := hrt
        refine ⟨_, rfl, t, _, 0, .str "accepted", rfl, rfl, sqt hrt2, rfl, rfl, _, rfl, ifn (fun _ => ?_) (fun z => absurd (V.str.inj z) (by decide))⟩
        refine ⟨_, rfl, m, _, 0, _, rfl, rfl, sql hm1, rfl, _, rfl, st.pr, x, rfl, _, rfl, m, _, 0, 0, rfl, rfl, hm1, rfl, ?_⟩
        have hset : [V.int st.pr, V.int st.b, V.ref kl].set 0 (V.int (if x > st.pr then x else st.pr)) = [V.int (mx x st.pr), V.int st.b, V.ref kl] := rfl
        rw [hset]
        have k2 : ∀ y u, H y = some u → y ≠ m → (upd G m (.lst [.int (mx x st.pr), .int st.b, .ref kl])) y = some u := fun y u hy h => lift (sG _ _ hy) h
        have em2 : (upd G m (.lst [.int (mx x st.pr), .int st.b, .ref kl])) m = some (.lst [.int (mx x st.pr), .int st.b, .ref kl]) := upd_same
        have et2 : (upd G m (.lst [.int (mx x st.pr), .int st.b, .ref kl])) t = some (.tup [.str "accepted", .int x, .int s, v]) := lift hrt2 (ne_of hrt2 hm1 (by intro z; cases z))
        generalize upd G m (.lst [.int (mx x st.pr), .int st.b, .ref kl]) = G2 at k2 em2 et2
        have kH2 : Keep H G2 := keep_of (fun xs => by rw [hm]; intro z; cases z) k2
        have hkl2 := k2 _ _ hkl nmk.symm
        have ho2 := k2 _ _ ho nmo.symm
        refine ⟨_, rfl, t, _, 0, .str "accepted", rfl, rfl, sqt et2, rfl, rfl, _, rfl, ift rfl ?_⟩
        refine ⟨_, rfl, _, rfl, m, _, 1, _, rfl, rfl, sql em2, rfl, _, _, rfl, rfl, _, rfl, ifd (fun hb => ?_) (fun hb => ?_)⟩
        · dsimp only [L2.tNext, L2.tSeq, L2.tAsg, L2.tOp]
          refine lc_ents (K := K) (s := 9) kl xs st.es (fun e => !decide (e.1 = s)) hkl2 (ma_keep kH2 hma) (by rw [ma_len hma]; omega) (fun R hR => ⟨_, rfl, m, _, 2, _, rfl, rfl, sql em2, rfl, kl, rfl, ⟨_, sql hkl2⟩, hR⟩) (fun _ => rfl) (fun y e J Q' hy sJ hq => ?_) (fun y J Q' hq => ⟨_, rfl, hq⟩) (fun D J ys hD sJ hDJ hmJ => ?_)
          · obtain ⟨t', rfl, ht'⟩ := hy
            refine ⟨_, rfl, t', _, 0, _, rfl, rfl, sqt ht', rfl, _, rfl, rfl, _, rfl, ?_⟩
            have e1 : decide (V.int e.1 = V.int s) = decide (e.1 = s) := by
              congr 1
              exact propext ⟨fun h => V.int.inj h, fun h => by rw [h]⟩
            rw [e1]
            exact hq
          · refine ⟨_, rfl, _, rfl, _, rfl, (by show 3 ≤ sizeLine; decide), fun t6 ht6 => ⟨(by show 1 ≤ sizeLine; decide), fun l6 hl6 => ?_⟩⟩
            have nDt : D ≠ t6 := ne_of_none hDJ ht6
            have hl0 : J l6 = none := (same_upd ht6).free hl6
            have nlt : l6 ≠ t6 := fun z => by rw [z, upd_same] at hl6; cases hl6
            have nDl : D ≠ l6 := ne_of_none hDJ hl0
            have hyl : ys.length ≤ 1000 := by
              rw [ma_len hmJ]
              exact Nat.le_trans (List.length_filter_le _ _) hest
            refine ⟨D, l6, ys, [.ref t6], rfl, rfl, lift (lift hDJ nDt) nDl, upd_same, sz (by simp only [List.length_cons, List.length_nil]; omega), fun r hr => ?_⟩
            have s6 : Same J (upd (upd J t6 (.tup [.int s, .int x, v])) l6 (.lst [.ref t6])) := (same_upd ht6).trans (same_upd hl6)
            have ht62 : (upd (upd J t6 (.tup [.int s, .int x, v])) l6 (.lst [.ref t6])) t6 = some (.tup [.int s, .int x, v]) := by rw [upd_ne nlt.symm, upd_same]
            have s7 : Same J (upd (upd (upd J t6 (.tup [.int s, .int x, v])) l6 (.lst [.ref t6])) r (.lst (ys ++ [.ref t6]))) := s6.trans (same_upd hr)
            have ht63 := same_upd (o := .lst (ys ++ [.ref t6])) hr _ _ ht62
            have hr3 : (upd (upd (upd J t6 (.tup [.int s, .int x, v])) l6 (.lst [.ref t6])) r (.lst (ys ++ [.ref t6]))) r = some (.lst (ys ++ [.ref t6])) := upd_same
            have hJr : J r = none := s6.free hr
            generalize upd (upd (upd J t6 (.tup [.int s, .int x, v])) l6 (.lst [.ref t6])) r (.lst (ys ++ [.ref t6])) = L at s7 ht63 hr3
            have sL : Same G2 L := sJ.trans s7
            have hmL := sL _ _ em2
            have nmr : m ≠ r := ne_of_none (sJ _ _ em2) hJr
            have nro : r ≠ o := (ne_of_none (sJ _ _ ho2) hJr).symm
            refine ⟨_, rfl, m, _, 2, 2, rfl, rfl, hmL, rfl, ?_⟩
            have hset2 : [V.int (mx x st.pr), V.int st.b, V.ref kl].set 2 (V.ref r) = [V.int (mx x st.pr), V.int st.b, V.ref r] := rfl
            rw [hset2]
            have kLN : Keep L (upd L m (.lst [.int (mx x st.pr), .int st.b, .ref r])) := fun u us h => lift h (ne_of h hmL (by intro z; cases z))
            have hmaN : MA (upd L m (.lst [.int (mx x st.pr), .int st.b, .ref r])) (ys ++ [.ref t6]) (putE st.es s x v) := ma_keep kLN (ma_app (ma_keep (fun u us h => s7 u _ h) hmJ) ⟨⟨t6, rfl, ht63⟩, trivial⟩)
            have emN : (upd L m (.lst [.int (mx x st.pr), .int st.b, .ref r])) m = some (.lst [.int (mx x st.pr), .int st.b, .ref r]) := upd_same
            have erN : (upd L m (.lst [.int (mx x st.pr), .int st.b, .ref r])) r = some (.lst (ys ++ [.ref t6])) := lift hr3 nmr.symm
            have etN := kLN _ _ (sL _ _ et2)
            have kN : ∀ y u, H y = some u → y ≠ m → (upd L m (.lst [.int (mx x st.pr), .int st.b, .ref r])) y = some u := fun y u hy h => lift (sL _ _ (k2 y u hy h)) h
            generalize upd L m (.lst [.int (mx x st.pr), .int st.b, .ref r]) = N at kLN hmaN emN erN etN kN
            have hoN := kN _ _ ho nmo.symm
            refine ⟨_, rfl, .inl ⟨rfl, _, sql hoN⟩, _, rfl, o, rs, .ref t, rfl, rfl, hoN, szl (by omega), ?_⟩
            have k5 : ∀ y u, H y = some u → y ≠ m → y ≠ o → (upd N o (.lst (rs ++ [.ref t]))) y = some u := fun y u hy h1 h2 => lift (kN y u hy h1) h2
            have kk5 : Keep N (upd N o (.lst (rs ++ [.ref t]))) := fun u us h => lift h (ne_of h hoN (by intro z; cases z))
            have em5 : (upd N o (.lst (rs ++ [.ref t]))) m = some (.lst [.int (mx x st.pr), .int st.b, .ref r]) := lift emN nmo
            have er5 : (upd N o (.lst (rs ++ [.ref t]))) r = some (.lst (ys ++ [.ref t6])) := lift erN nro
            have eo5 : (upd N o (.lst (rs ++ [.ref t]))) o = some (.lst (rs ++ [.ref t])) := upd_same
            have et5 := kk5 _ _ etN
            have hma5 := ma_keep kk5 hmaN
            have kH5 : Keep H (upd N o (.lst (rs ++ [.ref t]))) := fun u us h => k5 u _ h (ne_of h hm (by intro z; cases z)) (ne_of h ho (by intro z; cases z))
            generalize upd N o (.lst (rs ++ [.ref t])) = G5 at k5 kk5 em5 er5 eo5 et5 hma5 kH5
            have hp5 := k5 _ _ hp npm npo
            have hd5 := k5 _ _ hd ndm ndo
            have hb' : ¬ s < st.b := by omega
            refine ⟨_, rfl, p, dx, _, rfl, hp5, rfl, _, rfl, p, d, t, st.pr, st.b, kvs, .acc x s v, rfl, ⟨⟨dx, hp5⟩, hd5⟩, kle, et5, fun z => absurd z hb', fun _ u G6 hu hacc hu' k6 => ?_⟩
            have kk6 : Keep G5 G6 := fun y us h => k6 y _ h (ne_of h hp5 (by intro z; cases z)) (ne_of h hd5 (by intro z; cases z))
            have kH6 := kH5.trans kk6
            have hst : stp st (.acc x s v) = ⟨mx x st.pr, st.b, putE st.es s x v⟩ := by show AS.mk _ _ _ = _; rw [if_neg hb']
            refine q d r ⟨mx x st.pr, st.b, putE st.es s x v⟩ (ys ++ [.ref t6]) (rs ++ [.ref t]) (rcs ++ [.acc x s v]) G6 ⟨⟨_, putL es' s x v, hacc, ka_put hu' (ka_keep kH6 hka), (putL_perm nd' s x v).trans (putE_perm hperm s x v)⟩, ⟨k6 _ _ em5 npm.symm ndm.symm, k6 _ _ er5 (ne_of er5 hp5 (by intro z; cases z)) (ne_of er5 hd5 (by intro z; cases z)), ma_keep kk6 hma5, nmr⟩, k6 _ _ eo5 npo.symm ndo.symm, recs_app (r := .acc x s v) ⟨t, rfl, kk6 _ _ et5⟩ (recs_keep kH6 hW.rc), nmo, nro, wf_put hW.wf hs0 hs40, va_put (fun e he => va3_keep kH6 (hW.ev e he)) (va3_keep kH6 hv), by rw [List.length_append]; exact Nat.succ_le_succ hW.rl, by rw [List.foldl_append, hW.st0]; exact hst⟩ fun y u hy h1 h2 h3 h4 => k6 _ _ (k5 y u hy h3 h4) h1 h2
        · have hb' : s < st.b := by omega
          refine ⟨_, rfl, .inl ⟨rfl, _, sql ho2⟩, _, rfl, o, rs, .ref t, rfl, rfl, ho2, szl (by omega), ?_⟩
          have k5 : ∀ y u, H y = some u → y ≠ m → y ≠ o → (upd G2 o (.lst (rs ++ [.ref t]))) y = some u := fun y u hy h1 h2 => lift (k2 y u hy h1) h2
          have em5 : (upd G2 o (.lst (rs ++ [.ref t]))) m = some (.lst [.int (mx x st.pr), .int st.b, .ref kl]) := lift em2 nmo
          have eo5 : (upd G2 o (.lst (rs ++ [.ref t]))) o = some (.lst (rs ++ [.ref t])) := upd_same
          have et5 : (upd G2 o (.lst (rs ++ [.ref t]))) t = some (.tup [.str "accepted", .int x, .int s, v]) := lift et2 (ne_of et2 ho2 (by intro z; cases z))
          have kH5 : Keep H (upd G2 o (.lst (rs ++ [.ref t]))) := fun u us h => k5 u _ h (ne_of h hm (by intro z; cases z)) (ne_of h ho (by intro z; cases z))
          generalize upd G2 o (.lst (rs ++ [.ref t])) = G5 at k5 em5 eo5 et5 kH5
          have hp5 := k5 _ _ hp npm npo
          have hd5 := k5 _ _ hd ndm ndo
          refine ⟨_, rfl, p, dx, _, rfl, hp5, rfl, _, rfl, p, d, t, st.pr, st.b, kvs, .acc x s v, rfl, ⟨⟨dx, hp5⟩, hd5⟩, kle, et5, fun _ G6 hacc k6 => ?_, fun z => absurd hb' z⟩
          have kk6 : Keep G5 G6 := keep_of (fun xs => by rw [hp5]; intro z; cases z) k6
          have kH6 := kH5.trans kk6
          have hst : stp st (.acc x s v) = ⟨mx x st.pr, st.b, st.es⟩ := by show AS.mk _ _ _ = _; rw [if_pos hb']
          refine q d kl ⟨mx x st.pr, st.b, st.es⟩ xs (rs ++ [.ref t]) (rcs ++ [.acc x s v]) G6 ⟨⟨kvs, es', hacc, ka_keep kH6 hka, hperm⟩, ⟨k6 _ _ em5 npm.symm, k6 _ _ (k5 _ _ hkl nmk.symm nko) npk.symm, ma_keep kH6 hma, nmk⟩, k6 _ _ eo5 npo.symm, recs_app (r := .acc x s v) ⟨t, rfl, kk6 _ _ et5⟩ (recs_keep kH6 hW.rc), nmo, nko, wf_mono ⟨hW.wf.nd, hW.wf.rg, hW.wf.ln⟩ (Nat.le_succ n), fun e he => va3_keep kH6 (hW.ev e he), by rw [List.length_append]; exact Nat.succ_le_succ hW.rl, by rw [List.foldl_append, hW.st0]; exact hst⟩ fun y u hy h1 h2 h3 h4 => k6 _ _ (k5 y u hy h3 h4) h1
      · obtain ⟨y3, hrt2⟩ : ∃ y, G t = some (.tup [.str "image", .int s, y]) := hrt
        refine ⟨_, rfl, t, _, 0, .str "image", rfl, rfl, sqt hrt2, rfl, rfl, _, rfl, ifnt rfl ?_⟩
        refine ⟨_, rfl, t, _, 0, .str "image", rfl, rfl, sqt hrt2, rfl, rfl, _, rfl, iff0 (fun z => absurd (V.str.inj z) (by decide)) ((if_neg Bool.false_ne_true).mpr ?_)⟩
        refine ⟨_, rfl, .inl ⟨rfl, _, sql ho1⟩, _, rfl, o, rs, .ref t, rfl, rfl, ho1, szl (by omega), ?_⟩
        have k5 : ∀ y u, H y = some u → y ≠ o → (upd G o (.lst (rs ++ [.ref t]))) y = some u := fun y u hy h2 => lift (sG _ _ hy) h2
        have eo5 : (upd G o (.lst (rs ++ [.ref t]))) o = some (.lst (rs ++ [.ref t])) := upd_same
        have et5 : (upd G o (.lst (rs ++ [.ref t]))) t = some (.tup [.str "image", .int s, y3]) := lift hrt2 (ne_of hrt2 ho1 (by intro z; cases z))
        have kH5 : Keep H (upd G o (.lst (rs ++ [.ref t]))) := keep_of (fun xs => by rw [ho]; intro z; cases z) k5
        generalize upd G o (.lst (rs ++ [.ref t])) = G5 at k5 eo5 et5 kH5
        have hp5 := k5 _ _ hp npo
        have hd5 := k5 _ _ hd ndo
        refine ⟨_, rfl, p, dx, _, rfl, hp5, rfl, _, rfl, p, d, t, st.pr, st.b, kvs, .img s, rfl, ⟨⟨dx, hp5⟩, hd5⟩, kle, ⟨y3, et5⟩, ?_⟩
        refine q d kl st xs (rs ++ [.ref t]) (rcs ++ [.img s]) G5 ⟨⟨kvs, es', ⟨⟨dx, hp5⟩, hd5⟩, ka_keep kH5 hka, hperm⟩, ⟨k5 _ _ hm nmo, k5 _ _ hkl nko, ma_keep kH5 hma, nmk⟩, eo5, recs_app (r := .img s) ⟨t, rfl, ⟨y3, et5⟩⟩ (recs_keep kH5 hW.rc), nmo, nko, wf_mono hW.wf (Nat.le_succ n), fun e he => va3_keep kH5 (hW.ev e he), by rw [List.length_append]; exact Nat.succ_le_succ hW.rl, by rw [List.foldl_append, hW.st0]; rfl⟩ fun y u hy h1 h2 h3 h4 => k5 y u hy h4
end
theorem stp_nd {st : AS} (h : (st.es.map (·.1)).Nodup) : ∀ r, ((stp st r).es.map (·.1)).Nodup := by
  have hp : ∀ s x v, ((putE st.es s x v).map (·.1)).Nodup := fun s x v => by
    unfold putE
    rw [List.map_append]
    refine List.nodup_append.mpr ⟨(List.filter_sublist.map _).nodup h, by simp, fun y hy z hz w => ?_⟩
    obtain ⟨e, he, e1⟩ := List.mem_map.mp hy
    have := (List.mem_filter.mp he).2
    simp only [List.map_cons, List.map_nil, List.mem_cons, List.not_mem_nil, or_false] at hz
    have : e.1 ≠ s := by simpa using this
    exact this (by rw [e1, w, hz])
  intro r
  cases r with
  | pro x => exact h
  | acc x s v =>
    show ((if s < st.b then st.es else putE st.es s x v).map (·.1)).Nodup
    split
    · exact h
    · exact hp s x v
  | img s => exact h
  | cut s =>
    show ((if st.b < s then AS.mk st.pr s (st.es.filter fun e => decide (e.1 ≥ s)) else st).es.map (·.1)).Nodup
    split
    · exact (List.filter_sublist.map _).nodup h
    · exact h
theorem stp_len (st : AS) : ∀ r, (stp st r).es.length ≤ st.es.length + 1 := by
  intro r
  cases r with
  | pro x => exact Nat.le_succ _
  | acc x s v =>
    show (if s < st.b then st.es else putE st.es s x v).length ≤ _
    split
    · exact Nat.le_succ _
    · unfold putE
      rw [List.length_append]
      exact Nat.succ_le_succ (List.length_filter_le _ _)
  | img s => exact Nat.le_succ _
  | cut s =>
    show (if st.b < s then AS.mk st.pr s (st.es.filter fun e => decide (e.1 ≥ s)) else st).es.length ≤ _
    split
    · exact Nat.le_succ_of_le (List.length_filter_le _ _)
    · exact Nat.le_succ _
theorem fold_nd : ∀ (rs : List Rec) {st : AS}, (st.es.map (·.1)).Nodup → ((rs.foldl stp st).es.map (·.1)).Nodup
  | [], _, h => h
  | r :: rs, _, h => fold_nd rs (stp_nd h r)
theorem fold_len : ∀ (rs : List Rec) (st : AS), (rs.foldl stp st).es.length ≤ st.es.length + rs.length
  | [], st => Nat.le_refl _
  | r :: rs, st => by
    have := fold_len rs (stp st r)
    have := stp_len st r
    rw [List.foldl_cons, List.length_cons]
    omega
theorem fold_take {rs : List Rec} {j : Nat} {r : Rec} (h : rs[j]? = some r) (st : AS) : (rs.take (j + 1)).foldl stp st = stp ((rs.take j).foldl stp st) r := by
  rw [take_more h, List.foldl_append]
  rfl
theorem recs_at {K : PySem.W.Frag} {H : Hp} : ∀ {xs : List V} {rs : List Rec} {i : Nat} {x : V}, RecsAt K H xs rs → xs[i]? = some x → ∃ r t, rs[i]? = some r ∧ x = .ref t ∧ RecAt K H t r
  | x :: xs, r :: rs, 0, y, ⟨⟨t, e, q⟩, g⟩, h => ⟨r, t, rfl, by rw [← Option.some.inj h]; exact e, q⟩
  | x :: xs, r :: rs, i + 1, y, ⟨q, g⟩, h => by
    obtain ⟨r', t, h1, h2, h3⟩ := recs_at (i := i) g (by simpa using h)
    exact ⟨r', t, by simpa using h1, h2, h3⟩
theorem wrld_same {C : Addr} {K : PySem.W.Frag} {H H' : Hp} {p d m kl o : Addr} {st : AS} {xs rs : List V} {rcs : List Rec} {n : Nat} (h : Wrld C K H p d m kl o st xs rs rcs n) (s : Same H H') : Wrld C K H' p d m kl o st xs rs rcs n := by
  have kk : Keep H H' := fun u us e => s _ _ e
  obtain ⟨kvs, es', ⟨⟨dx, hp⟩, hd⟩, hka, hperm⟩ := h.acc
  exact ⟨⟨kvs, es', ⟨⟨dx, s _ _ hp⟩, s _ _ hd⟩, ka_keep kk hka, hperm⟩, ⟨s _ _ h.mdl.mo, s _ _ h.mdl.ko, ma_keep kk h.mdl.ea, h.mdl.ne⟩, s _ _ h.ro, recs_keep kk h.rc, h.mo, h.ko, h.wf, fun e he => va3_keep kk (h.ev e he), h.rl, h.st0⟩
def sp_law (K : PySem.W.Frag) : Sp := fun vs H Q _ => ∃ (a : Addr) (ns : List Int), vs = [.ref a] ∧ SqL K H a (ns.map V.int) ∧ ns.length ≤ 63 ∧ ∀ H', Q (.bl true) H'
def Done (C : Addr) (K : PySem.W.Frag) (ds : List Int) (A0 o p m rr : Addr) (i : Nat) (σ : L2.St) (G : Hp) : Prop := ∃ (d kl : Addr) (st : AS) (xs rs : List V) (rcs : List Rec) (x5 x6 x7 x8 : Option V),
  σ = [some (.ref A0), some (.ref o), some (.ref p), some (.ref m), some (.ref rr), x5, x6, x7, x8, none, none, none] ∧ Wrld C K G p d m kl rr st xs rs rcs i ∧ G o = some (.lst (ds.map V.int))
section
variable {P : Program} {w : World} {K : PySem.W.Frag} {mg : Str → Option Value} {base : Heap}
theorem ok_law (T : TX K mg) : FnOk P w K mg base CX0 4 T.a_law T.d_law ["script"] (sp_law K) := by
  refine T.F_law.ok sc_law (fun vs H Q E h => ?_) (fun cdv A outer s H vs Q E hr h => ?_)
  · obtain ⟨a, ns, rfl, _⟩ := h
    rfl
  · obtain ⟨A0, ns, rfl, hS, hns, q⟩ := h
    refine ⟨_, (pss_cons (ps_set (i := 1) sc_law.nd rfl (Or.inl rfl) (pe_call (ok__law_draws T) (hr.mono (by decide)) (by rfl) T.g__law_draws T.F__law_draws.kp T.b__law_draws .nil pass0 (pa_cons (pv 0) pa_nil)))
      (pss_cons (ps_set (i := 2) sc_law.nd rfl (Or.inl rfl) (pe_make0 T.M_Acceptor (ok_Acceptor___init__ T) (hr.mono (by decide)) (by rfl) T.g_Acceptor T.b_Acceptor___init__ .nil pass0))
      (pss_cons (ps_set (i := 3) sc_law.nd rfl (Or.inl rfl) (pe_lst (pa_cons pe_int (pa_cons pe_int (pa_cons (pe_lst pa_nil) pa_nil)))))
      (pss_cons (ps_set (i := 4) sc_law.nd rfl (Or.inl rfl) (pe_lst pa_nil))
      (pss_cons (ps_if (pt_not (pt_val (pe_call (ok__law_is_state T) (hr.mono (by decide)) (by rfl) T.g__law_is_state T.F__law_is_state.kp T.b__law_is_state .nil pass0 (pa_cons (pv 2) (pa_cons (pv 3) pa_nil))))) (pss_one (ps_ret pe_bl)) pss_nil)
      (pss_cons (ps_for PassesOwn.never rfl (pi_range1 (by rfl) T.n_range (pa_cons (pe_callB (call_min2 rfl) (by rfl) T.n_min (by decide +kernel) (pa_cons pe_int (pa_cons (pe_op op_fdiv (pe_callB call_len_seq (by rfl) T.n_len PySem.boot_len (pa_cons (pv 1) pa_nil)) pe_int) pa_nil))) pa_nil)) (pg_name (i := 5) sc_law.nd rfl (Or.inl rfl))
        (pss_cons (ps_set (i := 6) sc_law.nd rfl (Or.inl rfl) (pe_ix ix_list (pv 1) (pe_op op_mul pe_int (pv 5)) (fun _ _ => rfl)))
        (pss_cons (ps_set (i := 7) sc_law.nd rfl (Or.inl rfl) (pe_op op_mod (pe_ix ix_list (pv 1) (pe_op op_add (pe_op op_mul pe_int (pv 5)) pe_int) (fun _ _ => rfl)) pe_int))
        (C8.pss_cut (ps_if (pt_cmpR op_eq (pe_op op_mod (pe_op op_fdiv (pv 6) pe_int) pe_int) pe_int (nomark _)) (pss_one (ps_set (i := 7) sc_law.nd rfl (Or.inl rfl) (pe_callB (call_max2 rfl) (by rfl) T.n_max (by decide +kernel) (pa_cons pe_int (pa_cons (pe_op op_sub (pe_op op_add (pe_ix ix_list (pv 3) pe_int (fun _ _ => rfl)) (pe_op op_mod (pe_ix ix_list (pv 1) (pe_op op_add (pe_op op_mul pe_int (pv 5)) pe_int) (fun _ _ => rfl)) pe_int)) pe_int) pa_nil))))) pss_nil)
        (pss_cons (ps_set (i := 8) sc_law.nd rfl (Or.inl rfl) (pe_op op_mod (pe_ix ix_list (pv 1) (pe_op op_add (pe_op op_mul pe_int (pv 5)) pe_int) (fun _ _ => rfl)) pe_int))
        (C8.pss_cut (ps_if (pt_cmpR op_eq (pe_op op_mod (pe_op op_fdiv (pv 6) pe_int) pe_int) pe_int (nomark _)) (pss_one (ps_set (i := 8) sc_law.nd rfl (Or.inl rfl) (pe_callB (call_min2 rfl) (by rfl) T.n_min (by decide +kernel) (pa_cons pe_int (pa_cons (pe_callB (call_max2 rfl) (by rfl) T.n_max (by decide +kernel) (pa_cons pe_int (pa_cons (pe_op op_sub (pe_op op_add (pe_ix ix_list (pv 3) pe_int (fun _ _ => rfl)) (pe_op op_mod (pe_ix ix_list (pv 1) (pe_op op_add (pe_op op_mul pe_int (pv 5)) pe_int) (fun _ _ => rfl)) pe_int)) pe_int) pa_nil))) pa_nil))))) pss_nil)
        (pss_cons (ps_if (pt_not (pt_val (pe_call (ok__law_deed T) (hr.mono (by decide)) (by rfl) T.g__law_deed T.F__law_deed.kp T.b__law_deed .nil pass0 (pa_cons (pv 2) (pa_cons (pv 3) (pa_cons (pv 4) (pa_cons (pe_op op_mod (pv 6) pe_int) (pa_cons (pv 7) (pa_cons (pv 8) (pa_cons (pe_tup (pa_cons pe_str (pa_cons (pv 5) (pa_cons (pv 6) pa_nil)))) pa_nil)))))))))) (pss_one (ps_ret pe_bl)) pss_nil)
        (pss_one (ps_if (pt_not (pt_val (pe_call (ok__law_is_state T) (hr.mono (by decide)) (by rfl) T.g__law_is_state T.F__law_is_state.kp T.b__law_is_state .nil pass0 (pa_cons (pv 2) (pa_cons (pv 3) pa_nil))))) (pss_one (ps_ret pe_bl)) pss_nil)))))))))
      (pss_cons (ps_set (i := 9) sc_law.nd rfl (Or.inl rfl) (pe_make0 T.M_Acceptor (ok_Acceptor___init__ T) (hr.mono (by decide)) (by rfl) T.g_Acceptor T.b_Acceptor___init__ .nil pass0))
      (pss_cons (ps_for PassesOwn.never rfl (pi_list (pv 4)) (pg_name (i := 10) sc_law.nd rfl (Or.inl rfl))
        (pss_one (ps_if (pt_cmpR op_eq (pe_ix ix_tup (pv 10) pe_int (fun _ _ => rfl)) pe_str (nomark _)) (pss_one (ps_expr (pe_meth (pv 9) T.K_Acceptor T.m_Acceptor_cut (ok_Acceptor_cut T) (hr.mono (by decide)) T.b_Acceptor_cut .nil pass0 (pa_cons (pe_ix ix_tup (pv 10) pe_int (fun _ _ => rfl)) pa_nil)))) (pss_one (ps_expr (pe_meth (pv 9) T.K_Acceptor T.m_Acceptor_replay (ok_Acceptor_replay T) (hr.mono (by decide)) T.b_Acceptor_replay .nil pass0 (pa_cons (pv 10) pa_nil)))))))
      (pss_cons (ps_set (i := 11) sc_law.nd rfl (Or.inl rfl) (pe_tup (pa_cons pe_str (pa_cons (pe_op op_add (pe_ix ix_list (pv 3) pe_int (fun _ _ => rfl)) pe_int) (pa_cons (pe_ix ix_list (pv 3) pe_int (fun _ _ => rfl)) (pa_cons (pe_call (ok__law_rows T) (hr.mono (by decide)) (by rfl) T.g__law_rows T.F__law_rows.kp T.b__law_rows .nil pass0 (pa_cons (pe_ix ix_list (pv 3) pe_int (fun _ _ => rfl)) (pa_cons pe_int pa_nil))) pa_nil))))))
      (pss_one (ps_ret (pe_and (pe_cmpR (op_eqD hr.units) (pe_meth (pv 9) T.K_Acceptor T.m_Acceptor_prepare (ok_Acceptor_prepare T) (hr.mono (by decide)) T.b_Acceptor_prepare .nil pass0 (pa_cons (pe_op op_add (pe_ix ix_list (pv 3) pe_int (fun _ _ => rfl)) pe_int) (pa_cons pe_int pa_nil))) (pv 11) (nomark _)) (pe_one (pe_cmpR (op_eqD hr.units) (pe_meth (pv 2) T.K_Acceptor T.m_Acceptor_prepare (ok_Acceptor_prepare T) (hr.mono (by decide)) T.b_Acceptor_prepare .nil pass0 (pa_cons (pe_op op_add (pe_ix ix_list (pv 3) pe_int (fun _ _ => rfl)) pe_int) (pa_cons pe_int pa_nil))) (pv 11) (nomark _))))))))))))))), ?_⟩
    refine ⟨_, rfl, A0, ns, rfl, hS, fun o H1 ds ho s1 eo hdr hlen => ?_⟩
    refine fun p dx hp hdx npdx => ⟨p, dx, rfl, upd_same, fun d H2 hd hA2 hk2 => ⟨rfl, ?_⟩⟩
    refine ⟨Nat.zero_le _, fun kl hkl => ⟨(by show 3 ≤ sizeLine; decide), fun m hm => ?_⟩⟩
    refine ⟨Nat.zero_le _, fun rr hrr => ?_⟩
    have npo : p ≠ o := fun z => by rw [z, eo] at hp; cases hp
    have ndxo : dx ≠ o := fun z => by rw [z, eo] at hdx; cases hdx
    have eo2 : H2 o = some (.lst (ds.map V.int)) := hk2 _ _ (by rw [upd_ne npo.symm, upd_ne ndxo.symm]; exact eo) npo.symm
    have sA := same_upd (o := .lst []) hkl
    have sB := sA.trans (same_upd (o := .lst [.int 0, .int 0, .ref kl]) hm)
    have sC := sB.trans (same_upd (o := .lst []) hrr)
    have hkm : kl ≠ m := fun z => by rw [z, upd_same] at hm; cases hm
    have hkr : kl ≠ rr := fun z => by rw [← z, upd_ne hkm, upd_same] at hrr; cases hrr
    have hmr : m ≠ rr := fun z => by rw [← z, upd_same] at hrr; cases hrr
    have f1 : (upd (upd (upd H2 kl (.lst [])) m (.lst [.int 0, .int 0, .ref kl])) rr (.lst [])) m = some (.lst [.int 0, .int 0, .ref kl]) := by rw [upd_ne hmr, upd_same]
    have f2 : (upd (upd (upd H2 kl (.lst [])) m (.lst [.int 0, .int 0, .ref kl])) rr (.lst [])) kl = some (.lst []) := by rw [upd_ne hkr, upd_ne hkm, upd_same]
    have f3 : (upd (upd (upd H2 kl (.lst [])) m (.lst [.int 0, .int 0, .ref kl])) rr (.lst [])) rr = some (.lst []) := upd_same
    have hmo : m ≠ o := fun z => by rw [z, sA _ _ eo2] at hm; cases hm
    have hro : rr ≠ o := fun z => by rw [z, sB _ _ eo2] at hrr; cases hrr
    generalize upd (upd (upd H2 kl (.lst [])) m (.lst [.int 0, .int 0, .ref kl])) rr (.lst []) = G0 at sC f1 f2 f3
    obtain ⟨⟨dx', hp2⟩, hd2⟩ := hA2
    have W0 : Wrld T.a_Acceptor K G0 p d m kl rr ⟨0, 0, []⟩ [] [] [] 0 := ⟨⟨[], [], ⟨⟨dx', sC _ _ hp2⟩, sC _ _ hd2⟩, trivial, List.Perm.refl _⟩, ⟨f1, f2, trivial, hkm.symm⟩, f3, trivial, hmr, hkr, ⟨List.nodup_nil, (fun e he => by cases he), Nat.le_refl _⟩, (fun e he => by cases he), Nat.le_refl _, rfl⟩
    have eo0 := sC _ _ eo2
    refine ⟨_, rfl, _, rfl, p, d, m, kl, 0, 0, [], [], [], rfl, ⟨⟨dx', sC _ _ hp2⟩, sC _ _ hd2⟩, W0.mdl, fun G sG => ⟨_, rfl, ?_⟩⟩
    have W1 := wrld_same W0 sG
    have eo1 := sG _ _ eo0
    refine ⟨_, rfl, o, _, rfl, .inl (sql eo1), _, _, rfl, rfl, ⟨by decide, by decide⟩, 60, _, rfl, _, rfl, by rw [List.length_map]; split <;> omega, by rw [List.length_map]; split <;> omega, ?_⟩
    refine for_range (lo := 0) (n := _) (Done T.a_Acceptor K ds A0 o p m rr) ⟨d, kl, ⟨0, 0, []⟩, [], [], [], none, none, none, none, rfl, W1, eo1⟩ ?_ ?_
    · rintro i σ G hi ⟨d, kl, st, xs, rs, rcs, x5, x6, x7, x8, rfl, hW, ho'⟩
      rw [List.length_map] at hi
      have hi60 : i < 60 := by
        have : (if ((ds.length : Int) / 3) < 60 then ((ds.length : Int) / 3) else 60) ≤ 60 := by split <;> omega
        omega
      have hil : 3 * i + 2 < ds.length := by
        have : (if ((ds.length : Int) / 3) < 60 then ((ds.length : Int) / 3) else 60) ≤ (ds.length : Int) / 3 := by split <;> omega
        omega
      have g0 : atI (ds.map V.int) (3 * (0 + (i : Int))) = some (.int ds[3 * i]) := by
        have : 3 * (0 + (i : Int)) = ((3 * i : Nat) : Int) := by omega
        rw [this]
        exact at_map (List.getElem?_eq_getElem (by omega))
      have g1 : atI (ds.map V.int) (3 * (0 + (i : Int)) + 1) = some (.int ds[3 * i + 1]) := by
        have : 3 * (0 + (i : Int)) + 1 = ((3 * i + 1 : Nat) : Int) := by omega
        rw [this]
        exact at_map (List.getElem?_eq_getElem (by omega))
      have g2 : atI (ds.map V.int) (3 * (0 + (i : Int)) + 2) = some (.int ds[3 * i + 2]) := by
        have : 3 * (0 + (i : Int)) + 2 = ((3 * i + 2 : Nat) : Int) := by omega
        rw [this]
        exact at_map (List.getElem?_eq_getElem hil)
      generalize ds[3 * i] = one at g0
      generalize ds[3 * i + 1] = two at g1
      generalize ds[3 * i + 2] = three at g2
      have hmG := hW.mdl.mo
      refine ⟨_, rfl, _, rfl, _, _, rfl, rfl, .inl ⟨by decide, by decide⟩, o, _, _, _, rfl, rfl, sql ho', g0, ?_⟩
      refine ⟨_, rfl, _, rfl, _, _, rfl, rfl, .inl ⟨by decide, by decide⟩, _, _, rfl, rfl, o, _, _, _, rfl, rfl, sql ho', g1, _, _, rfl, rfl, (by show (0 : Int) < _; decide), ?_⟩
      refine ⟨fun σ' H' => G = H' ∧ ∃ bl : Int, σ' = [some (.ref A0), some (.ref o), some (.ref p), some (.ref m), some (.ref rr), some (.int (0 + (i : Int))), some (.int one), some (.int bl), x8, none, none, none], ?_, ?_⟩
      · refine ⟨_, rfl, _, _, rfl, rfl, ⟨by decide, by decide⟩, _, _, rfl, rfl, (by show (0 : Int) < _; decide), rfl, _, rfl, ifd (fun _ => ?_) (fun _ => ?_)⟩
        · exact ⟨_, rfl, m, _, 0, _, rfl, rfl, sql hmG, rfl, _, rfl, _, rfl, _, _, rfl, rfl, .inl ⟨by decide, by decide⟩, _, _, rfl, rfl, o, _, _, _, rfl, rfl, sql ho', g1, _, _, rfl, rfl, (by show (0 : Int) < _; decide), _, _, rfl, rfl, _, _, rfl, rfl, 0, _, rfl, rfl, _, rfl⟩
        · exact ⟨rfl, _, rfl⟩
      rintro σ' _ ⟨rfl, bl, rfl⟩
      refine ⟨_, rfl, _, rfl, _, _, rfl, rfl, .inl ⟨by decide, by decide⟩, _, _, rfl, rfl, o, _, _, _, rfl, rfl, sql ho', g2, _, _, rfl, rfl, (by show (0 : Int) < _; decide), ?_⟩
      refine ⟨fun σ' H' => G = H' ∧ ∃ sl : Int, 0 ≤ sl ∧ sl < 40 ∧ σ' = [some (.ref A0), some (.ref o), some (.ref p), some (.ref m), some (.ref rr), some (.int (0 + (i : Int))), some (.int one), some (.int bl), some (.int sl), none, none, none], ?_, ?_⟩
      · refine ⟨_, rfl, _, _, rfl, rfl, ⟨by decide, by decide⟩, _, _, rfl, rfl, (by show (0 : Int) < _; decide), rfl, _, rfl, ifd (fun _ => ?_) (fun _ => ?_)⟩
        · refine ⟨_, rfl, m, _, 1, _, rfl, rfl, sql hmG, rfl, _, rfl, _, rfl, _, _, rfl, rfl, .inl ⟨by decide, by decide⟩, _, _, rfl, rfl, o, _, _, _, rfl, rfl, sql ho', g2, _, _, rfl, rfl, (by show (0 : Int) < _; decide), _, _, rfl, rfl, _, _, rfl, rfl, 0, _, rfl, 30, _, rfl, rfl, _, ?_, ?_, rfl⟩
          · split
            · split <;> omega
            · decide
          · split
            · split <;> omega
            · decide
        · exact ⟨rfl, three % 8, by omega, by omega, rfl⟩
      rintro σ' _ ⟨rfl, sl, hs0, hs40, rfl⟩
      refine ⟨_, rfl, _, rfl, _, rfl, _, rfl, _, _, rfl, rfl, (by show (0 : Int) < _; decide), _, rfl, _, rfl, _, rfl, _, rfl, (by show 3 ≤ sizeLine; decide), fun tv htv => ?_⟩
      have sV : Same G (upd G tv (.tup [.str "v", .int (0 + (i : Int)), .int one])) := same_upd htv
      have hV : VA3 (upd G tv (.tup [.str "v", .int (0 + (i : Int)), .int one])) (.ref tv) := ⟨tv, _, _, rfl, upd_same⟩
      generalize upd G tv (.tup [.str "v", .int (0 + (i : Int)), .int one]) = GV at sV hV
      have oV := sV _ _ ho'
      obtain ⟨kvs, es', ⟨⟨dxa, hpa⟩, hda⟩, _, _⟩ := (wrld_same hW sV).acc
      refine ⟨p, d, m, kl, rr, st, xs, rs, rcs, i, one % 10, bl, sl, .ref tv, rfl, wrld_same hW sV, by omega, hs0, hs40, hV, fun d' kl' st' xs' rs' rcs' G' hW' fr => ⟨_, rfl, ?_⟩⟩
      have oV' := fr _ _ oV (ne_of oV hpa (by intro z; cases z)) (ne_of oV hda (by intro z; cases z)) hmo.symm hro.symm
      obtain ⟨kvs2, es2, hacc2, _, _⟩ := hW'.acc
      refine ⟨_, rfl, _, rfl, p, d', m, kl', st'.pr, st'.b, kvs2, xs', st'.es, rfl, hacc2, hW'.mdl, fun G2 sG2 => ⟨_, rfl, ?_⟩⟩
      exact ⟨d', kl', st', xs', rs', rcs', _, _, _, _, rfl, wrld_same hW' sG2, sG2 _ _ oV'⟩
    · rintro σ G ⟨d, kl, st, xs, rs, rcs, x5, x6, x7, x8, rfl, hW, ho'⟩
      have hnd := hW.wf.nd
      have h60 : rcs.length ≤ 60 := Nat.le_trans hW.rl (by split <;> omega)
      have he60 : st.es.length ≤ 60 := Nat.le_trans hW.wf.ln (by split <;> omega)
      refine fun p2 dx2 hp2 hdx2 npdx2 => ⟨p2, dx2, rfl, upd_same, fun d2 H2 hd2 hA2 hk2 => ⟨rfl, ?_⟩⟩
      have npp : ∀ y u, G y = some u → H2 y = some u := fun y u hy => hk2 _ _ (lift (lift hy (ne_of_none hy hdx2)) (ne_of_none hy hp2)) (ne_of_none hy hp2)
      have hd20 : G d2 = none := by
        have n1 : d2 ≠ p2 := fun z => by rw [z, upd_same] at hd2; cases hd2
        rw [upd_ne n1] at hd2
        have n2 : d2 ≠ dx2 := fun z => by rw [z, upd_same] at hd2; cases hd2
        rw [upd_ne n2] at hd2
        exact hd2
      obtain ⟨⟨dx3, hpT⟩, hdT⟩ := hA2
      have hro' := hW.ro
      refine ⟨_, rfl, rr, rfl, ⟨_, sql (npp _ _ hro')⟩, for_list (K := K) (a := rr) (xs := rs) (fun j σ J => ∃ (d2 : Addr) (x10 : Option V), σ = [some (.ref A0), some (.ref o), some (.ref p), some (.ref m), some (.ref rr), x5, x6, x7, x8, some (.ref p2), x10, none] ∧ AccRep T.a_Acceptor J p2 d2 ((rcs.take j).foldl stp ⟨0, 0, []⟩) ∧ Same G J ∧ G d2 = none)
        ⟨d2, none, rfl, ⟨[], [], ⟨⟨dx3, hpT⟩, hdT⟩, trivial, List.Perm.refl _⟩, npp, hd20⟩ (fun j σ J _ h => by obtain ⟨_, _, _, _, h4, _⟩ := h; exact sql (h4 _ _ hro')) ?_ ?_⟩
      · rintro j y σ J hy ⟨d2, x10, rfl, ⟨kvs, es', ⟨⟨dx4, hpJ⟩, hdJ⟩, hka, hperm⟩, sJ, hd0⟩
        obtain ⟨r, t, hr1, rfl, hrt⟩ := recs_at hW.rc hy
        have hft := fold_take hr1 ⟨0, 0, []⟩
        have hndf : (((rcs.take j).foldl stp ⟨0, 0, []⟩).es.map (·.1)).Nodup := fold_nd _ List.nodup_nil
        have hlf := fold_len (rcs.take j) ⟨0, 0, []⟩
        have hrl : (rcs.take j).length ≤ rcs.length := by rw [List.length_take]; omega
        generalize (rcs.take j).foldl stp ⟨0, 0, []⟩ = st2 at hpJ hdJ hperm hft hndf hlf
        have nd2' : (es'.map (·.1)).Nodup := (hperm.map _).nodup_iff.mpr hndf
        have kle : kvs.length ≤ 90000 := by
          have := ka_len hka
          have := hperm.length_eq
          have e0 : (AS.mk 0 0 []).es.length = 0 := rfl
          omega
        have kGJ : Keep G J := fun u us h => sJ _ _ h
        have hrtJ := rec_keep kGJ hrt
        have npd2 : p2 ≠ d2 := ne_of hpJ hdJ (by intro z; cases z)
        cases r with
        | cut s0 =>
          have hr2 : J t = some (.tup [.str "cut", .int s0]) := hrtJ
          refine ⟨_, rfl, t, _, 0, .str "cut", rfl, rfl, sqt hr2, rfl, rfl, _, rfl, ift rfl ?_⟩
          refine ⟨_, rfl, p2, dx4, _, rfl, hpJ, rfl, _, rfl, t, _, 1, .int s0, rfl, rfl, sqt hr2, rfl, p2, d2, st2.pr, st2.b, s0, kvs, rfl, ⟨⟨dx4, hpJ⟩, hdJ⟩, kle, ka_ints hka, ka_nd hka nd2', fun hb => ?_, fun hb d' J' hd' hacc k6 => ?_⟩
          · refine ⟨d2, _, rfl, ?_, sJ, hd0⟩
            have hst : stp st2 (.cut s0) = st2 := by show (if st2.b < s0 then _ else _) = _; rw [if_neg hb]
            rw [hft, hst]
            exact ⟨kvs, es', ⟨⟨dx4, hpJ⟩, hdJ⟩, hka, hperm⟩
          · have kJ : Keep J J' := keep_of (fun xs => by rw [hpJ]; intro z; cases z) k6
            refine ⟨d', _, rfl, ?_, fun y u hy => k6 _ _ (sJ _ _ hy) (ne_of_none hy hp2), sJ.free hd'⟩
            have hst : stp st2 (.cut s0) = ⟨st2.pr, s0, st2.es.filter fun e => decide (e.1 ≥ s0)⟩ := by show (if st2.b < s0 then _ else _) = _; rw [if_pos hb]
            rw [hft, hst]
            exact ⟨_, es'.filter fun e => decide (e.1 ≥ s0), hacc, ka_keep0 (ka_keep kJ hka), hperm.filter _⟩
        | img s0 =>
          obtain ⟨y3, hr2⟩ : ∃ y, J t = some (.tup [.str "image", .int s0, y]) := hrtJ
          refine ⟨_, rfl, t, _, 0, .str "image", rfl, rfl, sqt hr2, rfl, rfl, _, rfl, iff0 (fun z => absurd (V.str.inj z) (by decide)) ?_⟩
          refine ⟨_, rfl, p2, dx4, _, rfl, hpJ, rfl, _, rfl, p2, d2, t, st2.pr, st2.b, kvs, .img s0, rfl, ⟨⟨dx4, hpJ⟩, hdJ⟩, kle, ⟨y3, hr2⟩, ?_⟩
          refine ⟨d2, _, rfl, ?_, sJ, hd0⟩
          rw [hft]
          exact ⟨kvs, es', ⟨⟨dx4, hpJ⟩, hdJ⟩, hka, hperm⟩
        | pro x0 =>
          have hr2 : J t = some (.tup [.str "promised", .int x0]) := hrtJ
          refine ⟨_, rfl, t, _, 0, .str "promised", rfl, rfl, sqt hr2, rfl, rfl, _, rfl, iff0 (fun z => absurd (V.str.inj z) (by decide)) ?_⟩
          refine ⟨_, rfl, p2, dx4, _, rfl, hpJ, rfl, _, rfl, p2, d2, t, st2.pr, st2.b, kvs, .pro x0, rfl, ⟨⟨dx4, hpJ⟩, hdJ⟩, kle, hr2, fun J' hacc k6 => ?_⟩
          have kJ : Keep J J' := keep_of (fun xs => by rw [hpJ]; intro z; cases z) k6
          refine ⟨d2, _, rfl, ?_, fun y u hy => k6 _ _ (sJ _ _ hy) (ne_of_none hy hp2), hd0⟩
          rw [hft]
          exact ⟨kvs, es', hacc, ka_keep kJ hka, hperm⟩
        | acc x0 s0 v0 =>
          have hr2 : J t = some (.tup [.str "accepted", .int x0, .int s0, v0]) := hrtJ
          refine ⟨_, rfl, t, _, 0, .str "accepted", rfl, rfl, sqt hr2, rfl, rfl, _, rfl, iff0 (fun z => absurd (V.str.inj z) (by decide)) ?_⟩
          refine ⟨_, rfl, p2, dx4, _, rfl, hpJ, rfl, _, rfl, p2, d2, t, st2.pr, st2.b, kvs, .acc x0 s0 v0, rfl, ⟨⟨dx4, hpJ⟩, hdJ⟩, kle, hr2, fun hb J' hacc k6 => ?_, fun hb u J' hu hacc hu' k6 => ?_⟩
          · have kJ : Keep J J' := keep_of (fun xs => by rw [hpJ]; intro z; cases z) k6
            refine ⟨d2, _, rfl, ?_, fun y u hy => k6 _ _ (sJ _ _ hy) (ne_of_none hy hp2), hd0⟩
            have hst : stp st2 (.acc x0 s0 v0) = ⟨mx x0 st2.pr, st2.b, st2.es⟩ := by show AS.mk _ _ _ = _; rw [if_pos hb]
            rw [hft, hst]
            exact ⟨kvs, es', hacc, ka_keep kJ hka, hperm⟩
          · have kJ : Keep J J' := fun y us h => k6 y _ h (ne_of h hpJ (by intro z; cases z)) (ne_of h hdJ (by intro z; cases z))
            refine ⟨d2, _, rfl, ?_, fun y u hy => k6 _ _ (sJ _ _ hy) (ne_of_none hy hp2) (ne_of_none hy hd0), hd0⟩
            have hst : stp st2 (.acc x0 s0 v0) = ⟨mx x0 st2.pr, st2.b, putE st2.es s0 x0 v0⟩ := by show AS.mk _ _ _ = _; rw [if_neg hb]
            rw [hft, hst]
            exact ⟨_, putL es' s0 x0 v0, hacc, ka_put hu' (ka_keep kJ hka), (putL_perm nd2' s0 x0 v0).trans (putE_perm hperm s0 x0 v0)⟩
      · rintro σ J ⟨d2, x10, rfl, hrep, sJ, hd0⟩
        rw [recs_len hW.rc, List.take_length, hW.st0] at hrep
        have hWJ := wrld_same hW sJ
        obtain ⟨kvs2, es2, ⟨⟨dxt, hpt⟩, hdt⟩, hka2, hperm2⟩ := hrep
        obtain ⟨kvs1, es1, ⟨⟨dxa, hpa⟩, hda⟩, hka1, hperm1⟩ := hWJ.acc
        have hmJ := hWJ.mdl.mo
        obtain ⟨kvs0, es0, ⟨⟨dx0, hp0⟩, hd00⟩, _, _⟩ := hW.acc
        have npp2 : p ≠ p2 := ne_of_none hp0 hp2
        have nd2 : (es2.map (·.1)).Nodup := (hperm2.map _).nodup_iff.mpr hnd
        have nd1 : (es1.map (·.1)).Nodup := (hperm1.map _).nodup_iff.mpr hnd
        refine ⟨_, rfl, m, _, 0, _, rfl, rfl, sql hmJ, rfl, _, _, rfl, rfl, _, rfl, m, _, 1, _, rfl, rfl, sql hmJ, rfl, _, rfl, m, _, 2, _, rfl, rfl, sql hmJ, rfl, kl, 0, xs, st.es, rfl, hWJ.mdl.ko, hWJ.mdl.ea, hnd, by omega, fun r1 ys1 G3 hr1 s3 hr1' hma1 => ⟨(by show 4 ≤ sizeLine; decide), fun tl htl => ?_⟩⟩
        have s4 : Same J (upd G3 tl (.tup [.str "promise", .int (st.pr + 1), .int st.b, .ref r1])) := s3.trans (same_upd htl)
        have etl : (upd G3 tl (.tup [.str "promise", .int (st.pr + 1), .int st.b, .ref r1])) tl = some (.tup [.str "promise", .int (st.pr + 1), .int st.b, .ref r1]) := upd_same
        have er1 := same_upd (o := .tup [.str "promise", .int (st.pr + 1), .int st.b, .ref r1]) htl _ _ hr1'
        have em1 : MA (upd G3 tl (.tup [.str "promise", .int (st.pr + 1), .int st.b, .ref r1])) ys1 (rowsOf st.es 0) := ma_keep (fun u us h => same_upd htl _ _ h) hma1
        generalize upd G3 tl (.tup [.str "promise", .int (st.pr + 1), .int st.b, .ref r1]) = G4 at s4 etl er1 em1
        have hlt : ¬ st.pr + 1 < st.pr := by omega
        have kJ4 : Keep J G4 := fun u us h => s4 _ _ h
        have hm4 := s4 _ _ hmJ
        refine ⟨_, rfl, p2, dxt, _, rfl, s4 _ _ hpt, rfl, _, rfl, m, _, 0, _, rfl, rfl, sql hm4, rfl, _, _, rfl, rfl, p2, d2, st.pr, st.b, st.pr + 1, 0, kvs2, es2, rfl, ⟨⟨dxt, s4 _ _ hpt⟩, s4 _ _ hdt⟩, ka_keep kJ4 hka2, by have := hperm2.length_eq; omega, nd2, fun e he => hW.wf.rg e (hperm2.mem_iff.mp he), fun z => absurd z hlt, fun _ u r2 ys2 G6 hu hacc6 hu' hr2 hma2 k6 => ?_⟩
        have kk6 : Keep G4 G6 := keep_of (fun xs => by rw [s4 _ _ hpt]; intro z; cases z) k6
        have kJ6 := kJ4.trans kk6
        rw [rows_perm hperm2 nd2 0] at hma2
        have hmp2 : m ≠ p2 := ne_of hm4 (s4 _ _ hpt) (by intro z; cases z)
        have hm6 := k6 _ _ hm4 hmp2
        have hpa6 := k6 _ _ (s4 _ _ hpa) npp2
        have ndp2 : d ≠ p2 := ne_of (s4 _ _ hda) (s4 _ _ hpt) (by intro z; cases z)
        have hda6 := k6 _ _ (s4 _ _ hda) ndp2
        have ev6 : ∀ e ∈ st.es, VA3 G6 e.2.2 := fun e he => va3_keep kJ6 (hWJ.ev e he)
        obtain ⟨ds6, hds6, hfl6⟩ := rows_data (K := K) (es := rowsOf st.es 0) (H := G6) (fun e he => ev6 e (rowsOf_mem he))
        have fl6 : Flat 4 (.tuple [.str "promise", .int (st.pr + 1), .int st.b, .tuple ds6]) := flat_tup fun d hd => by
          simp only [List.mem_cons, List.not_mem_nil, or_false] at hd
          rcases hd with rfl | rfl | rfl | rfl
          · exact flat_str 3 _
          · exact flat_int 3 _
          · exact flat_int 3 _
          · exact flat_tup hfl6
        have sh6 := fl6.sh (by decide)
        have dpu : Dp K G6 (.ref u) (.tuple [.str "promise", .int (st.pr + 1), .int st.b, .tuple ds6]) := .tup (sqt hu') (.cons (.str _) (.cons (.int _) (.cons (.int _) (.cons (.tup (sqt hr2) (hds6 _ hma2)) .nil))))
        have dpl : Dp K G6 (.ref tl) (.tuple [.str "promise", .int (st.pr + 1), .int st.b, .tuple ds6]) := .tup (sqt (kk6 _ _ etl)) (.cons (.str _) (.cons (.int _) (.cons (.int _) (.cons (.tup (sqt (kk6 _ _ er1)) (hds6 _ (ma_keep kk6 em1))) .nil))))
        refine ⟨_, rfl, _, _, dpu, dpl, sh6, sh6, ?_⟩
        rw [eqv_self sh6]
        refine ⟨_, rfl, (if_pos rfl).mpr ?_⟩
        refine ⟨_, rfl, p, dxa, _, rfl, hpa6, rfl, _, rfl, m, _, 0, _, rfl, rfl, sql hm6, rfl, _, _, rfl, rfl, p, d, st.pr, st.b, st.pr + 1, 0, kvs1, es1, rfl, ⟨⟨dxa, hpa6⟩, hda6⟩, ka_keep kJ6 hka1, by have := hperm1.length_eq; omega, nd1, fun e he => hW.wf.rg e (hperm1.mem_iff.mp he), fun z => absurd z hlt, fun _ u7 r7 ys7 G7 hu7 hacc7 hu7' hr7 hma7 k7 => ?_⟩
        have kk7 : Keep G6 G7 := keep_of (fun xs => by rw [hpa6]; intro z; cases z) k7
        rw [rows_perm hperm1 nd1 0] at hma7
        have ev7 : ∀ e ∈ st.es, VA3 G7 e.2.2 := fun e he => va3_keep kk7 (ev6 e he)
        obtain ⟨ds7, hds7, hfl7⟩ := rows_data (K := K) (es := rowsOf st.es 0) (H := G7) (fun e he => ev7 e (rowsOf_mem he))
        have fl7 : Flat 4 (.tuple [.str "promise", .int (st.pr + 1), .int st.b, .tuple ds7]) := flat_tup fun d hd => by
          simp only [List.mem_cons, List.not_mem_nil, or_false] at hd
          rcases hd with rfl | rfl | rfl | rfl
          · exact flat_str 3 _
          · exact flat_int 3 _
          · exact flat_int 3 _
          · exact flat_tup hfl7
        have sh7 := fl7.sh (by decide)
        have dp7 : Dp K G7 (.ref u7) (.tuple [.str "promise", .int (st.pr + 1), .int st.b, .tuple ds7]) := .tup (sqt hu7') (.cons (.str _) (.cons (.int _) (.cons (.int _) (.cons (.tup (sqt hr7) (hds7 _ hma7)) .nil))))
        have dl7 : Dp K G7 (.ref tl) (.tuple [.str "promise", .int (st.pr + 1), .int st.b, .tuple ds7]) := .tup (sqt (kk7 _ _ (kk6 _ _ etl))) (.cons (.str _) (.cons (.int _) (.cons (.int _) (.cons (.tup (sqt (kk7 _ _ (kk6 _ _ er1))) (hds7 _ (ma_keep kk7 (ma_keep kk6 em1)))) .nil))))
        refine ⟨_, rfl, _, _, dp7, dl7, sh7, sh7, ?_⟩
        rw [eqv_self sh7]
        exact q _
end
theorem all_mk {l : PySem.W.OpenLaw} {w : World} {K : PySem.W.Frag} {h : Heap} {mg : Str → Option Value} {fa : Addr} (X : K.In h) (G : h.Ns mainGlobals mg) (hfa : mg "law" = some (.ref fa))
    {C_Acceptor : Addr} {f__is_record : Addr} {od__is_record an__is_record : Option Addr} {sl__is_record : Array (Option Value)} {oc__is_record kV__is_record dc__is_record pm__is_record cd__is_record ct__is_record : Value} {f_Acceptor___init__ : Addr} {od_Acceptor___init__ an_Acceptor___init__ : Option Addr} {sl_Acceptor___init__ : Array (Option Value)} {oc_Acceptor___init__ kV_Acceptor___init__ dc_Acceptor___init__ pm_Acceptor___init__ cd_Acceptor___init__ ct_Acceptor___init__ : Value} {f_Acceptor_prepare : Addr} {od_Acceptor_prepare an_Acceptor_prepare : Option Addr} {sl_Acceptor_prepare : Array (Option Value)} {oc_Acceptor_prepare kV_Acceptor_prepare dc_Acceptor_prepare pm_Acceptor_prepare cd_Acceptor_prepare ct_Acceptor_prepare : Value} {f_Acceptor_accept : Addr} {od_Acceptor_accept an_Acceptor_accept : Option Addr} {sl_Acceptor_accept : Array (Option Value)} {oc_Acceptor_accept kV_Acceptor_accept dc_Acceptor_accept pm_Acceptor_accept cd_Acceptor_accept ct_Acceptor_accept : Value} {f_Acceptor_cut : Addr} {od_Acceptor_cut an_Acceptor_cut : Option Addr} {sl_Acceptor_cut : Array (Option Value)} {oc_Acceptor_cut kV_Acceptor_cut dc_Acceptor_cut pm_Acceptor_cut cd_Acceptor_cut ct_Acceptor_cut : Value} {f_Acceptor_replay : Addr} {od_Acceptor_replay an_Acceptor_replay : Option Addr} {sl_Acceptor_replay : Array (Option Value)} {oc_Acceptor_replay kV_Acceptor_replay dc_Acceptor_replay pm_Acceptor_replay cd_Acceptor_replay ct_Acceptor_replay : Value} {f__law_draws : Addr} {od__law_draws an__law_draws : Option Addr} {sl__law_draws : Array (Option Value)} {oc__law_draws kV__law_draws dc__law_draws pm__law_draws cd__law_draws ct__law_draws : Value} {f__law_rows : Addr} {od__law_rows an__law_rows : Option Addr} {sl__law_rows : Array (Option Value)} {oc__law_rows kV__law_rows dc__law_rows pm__law_rows cd__law_rows ct__law_rows : Value} {f__law_is_state : Addr} {od__law_is_state an__law_is_state : Option Addr} {sl__law_is_state : Array (Option Value)} {oc__law_is_state kV__law_is_state dc__law_is_state pm__law_is_state cd__law_is_state ct__law_is_state : Value} {f__law_accept : Addr} {od__law_accept an__law_accept : Option Addr} {sl__law_accept : Array (Option Value)} {oc__law_accept kV__law_accept dc__law_accept pm__law_accept cd__law_accept ct__law_accept : Value} {f__law_deed : Addr} {od__law_deed an__law_deed : Option Addr} {sl__law_deed : Array (Option Value)} {oc__law_deed kV__law_deed dc__law_deed pm__law_deed cd__law_deed ct__law_deed : Value} {f_law : Addr} {od_law an_law : Option Addr} {sl_law : Array (Option Value)} {oc_law kV_law dc_law pm_law cd_law ct_law : Value}
    (g__is_record : PySem.W.nsIn K mainGlobals "_is_record" = some (some (.ref f__is_record)))
    (l__is_record : K.lookup f__is_record = some ⟨oc__is_record, od__is_record, .func (PySem.W.fnOf "_is_record" "_is_record" (defArgs s__is_record) (defBody s__is_record) (defScope s__is_record) .none kV__is_record dc__is_record pm__is_record an__is_record cd__is_record ct__is_record), sl__is_record⟩)
    (c__is_record : PySem.W.codeIn K cd__is_record "_is_record" = true)
    (k__is_record : PySem.W.keepIn K (.ref f__is_record) = true)
    (gc_Acceptor : PySem.W.nsIn K mainGlobals "Acceptor" = some (some (.ref C_Acceptor)))
    (m_Acceptor___init__ : PySem.W.findIn K (.ref C_Acceptor) "__init__" = some (some (.ref f_Acceptor___init__)))
    (i_Acceptor___init__ : PySem.W.isFn K (.ref f_Acceptor___init__) = true)
    (l_Acceptor___init__ : K.lookup f_Acceptor___init__ = some ⟨oc_Acceptor___init__, od_Acceptor___init__, .func (PySem.W.fnOf "__init__" "Acceptor.__init__" (defArgs s_Acceptor___init__) (defBody s_Acceptor___init__) (defScope s_Acceptor___init__) .none kV_Acceptor___init__ dc_Acceptor___init__ pm_Acceptor___init__ an_Acceptor___init__ cd_Acceptor___init__ ct_Acceptor___init__), sl_Acceptor___init__⟩)
    (c_Acceptor___init__ : PySem.W.codeIn K cd_Acceptor___init__ "Acceptor.__init__" = true)
    (k_Acceptor___init__ : PySem.W.keepIn K (.ref f_Acceptor___init__) = true)
    (m_Acceptor_prepare : PySem.W.findIn K (.ref C_Acceptor) "prepare" = some (some (.ref f_Acceptor_prepare)))
    (i_Acceptor_prepare : PySem.W.isFn K (.ref f_Acceptor_prepare) = true)
    (l_Acceptor_prepare : K.lookup f_Acceptor_prepare = some ⟨oc_Acceptor_prepare, od_Acceptor_prepare, .func (PySem.W.fnOf "prepare" "Acceptor.prepare" (defArgs s_Acceptor_prepare) (defBody s_Acceptor_prepare) (defScope s_Acceptor_prepare) .none kV_Acceptor_prepare dc_Acceptor_prepare pm_Acceptor_prepare an_Acceptor_prepare cd_Acceptor_prepare ct_Acceptor_prepare), sl_Acceptor_prepare⟩)
    (c_Acceptor_prepare : PySem.W.codeIn K cd_Acceptor_prepare "Acceptor.prepare" = true)
    (k_Acceptor_prepare : PySem.W.keepIn K (.ref f_Acceptor_prepare) = true)
    (m_Acceptor_accept : PySem.W.findIn K (.ref C_Acceptor) "accept" = some (some (.ref f_Acceptor_accept)))
    (i_Acceptor_accept : PySem.W.isFn K (.ref f_Acceptor_accept) = true)
    (l_Acceptor_accept : K.lookup f_Acceptor_accept = some ⟨oc_Acceptor_accept, od_Acceptor_accept, .func (PySem.W.fnOf "accept" "Acceptor.accept" (defArgs s_Acceptor_accept) (defBody s_Acceptor_accept) (defScope s_Acceptor_accept) .none kV_Acceptor_accept dc_Acceptor_accept pm_Acceptor_accept an_Acceptor_accept cd_Acceptor_accept ct_Acceptor_accept), sl_Acceptor_accept⟩)
    (c_Acceptor_accept : PySem.W.codeIn K cd_Acceptor_accept "Acceptor.accept" = true)
    (k_Acceptor_accept : PySem.W.keepIn K (.ref f_Acceptor_accept) = true)
    (m_Acceptor_cut : PySem.W.findIn K (.ref C_Acceptor) "cut" = some (some (.ref f_Acceptor_cut)))
    (i_Acceptor_cut : PySem.W.isFn K (.ref f_Acceptor_cut) = true)
    (l_Acceptor_cut : K.lookup f_Acceptor_cut = some ⟨oc_Acceptor_cut, od_Acceptor_cut, .func (PySem.W.fnOf "cut" "Acceptor.cut" (defArgs s_Acceptor_cut) (defBody s_Acceptor_cut) (defScope s_Acceptor_cut) .none kV_Acceptor_cut dc_Acceptor_cut pm_Acceptor_cut an_Acceptor_cut cd_Acceptor_cut ct_Acceptor_cut), sl_Acceptor_cut⟩)
    (c_Acceptor_cut : PySem.W.codeIn K cd_Acceptor_cut "Acceptor.cut" = true)
    (k_Acceptor_cut : PySem.W.keepIn K (.ref f_Acceptor_cut) = true)
    (m_Acceptor_replay : PySem.W.findIn K (.ref C_Acceptor) "replay" = some (some (.ref f_Acceptor_replay)))
    (i_Acceptor_replay : PySem.W.isFn K (.ref f_Acceptor_replay) = true)
    (l_Acceptor_replay : K.lookup f_Acceptor_replay = some ⟨oc_Acceptor_replay, od_Acceptor_replay, .func (PySem.W.fnOf "replay" "Acceptor.replay" (defArgs s_Acceptor_replay) (defBody s_Acceptor_replay) (defScope s_Acceptor_replay) .none kV_Acceptor_replay dc_Acceptor_replay pm_Acceptor_replay an_Acceptor_replay cd_Acceptor_replay ct_Acceptor_replay), sl_Acceptor_replay⟩)
    (c_Acceptor_replay : PySem.W.codeIn K cd_Acceptor_replay "Acceptor.replay" = true)
    (k_Acceptor_replay : PySem.W.keepIn K (.ref f_Acceptor_replay) = true)
    (g__law_draws : PySem.W.nsIn K mainGlobals "_law_draws" = some (some (.ref f__law_draws)))
    (l__law_draws : K.lookup f__law_draws = some ⟨oc__law_draws, od__law_draws, .func (PySem.W.fnOf "_law_draws" "_law_draws" (defArgs s__law_draws) (defBody s__law_draws) (defScope s__law_draws) .none kV__law_draws dc__law_draws pm__law_draws an__law_draws cd__law_draws ct__law_draws), sl__law_draws⟩)
    (c__law_draws : PySem.W.codeIn K cd__law_draws "_law_draws" = true)
    (k__law_draws : PySem.W.keepIn K (.ref f__law_draws) = true)
    (g__law_rows : PySem.W.nsIn K mainGlobals "_law_rows" = some (some (.ref f__law_rows)))
    (l__law_rows : K.lookup f__law_rows = some ⟨oc__law_rows, od__law_rows, .func (PySem.W.fnOf "_law_rows" "_law_rows" (defArgs s__law_rows) (defBody s__law_rows) (defScope s__law_rows) .none kV__law_rows dc__law_rows pm__law_rows an__law_rows cd__law_rows ct__law_rows), sl__law_rows⟩)
    (c__law_rows : PySem.W.codeIn K cd__law_rows "_law_rows" = true)
    (k__law_rows : PySem.W.keepIn K (.ref f__law_rows) = true)
    (g__law_is_state : PySem.W.nsIn K mainGlobals "_law_is_state" = some (some (.ref f__law_is_state)))
    (l__law_is_state : K.lookup f__law_is_state = some ⟨oc__law_is_state, od__law_is_state, .func (PySem.W.fnOf "_law_is_state" "_law_is_state" (defArgs s__law_is_state) (defBody s__law_is_state) (defScope s__law_is_state) .none kV__law_is_state dc__law_is_state pm__law_is_state an__law_is_state cd__law_is_state ct__law_is_state), sl__law_is_state⟩)
    (c__law_is_state : PySem.W.codeIn K cd__law_is_state "_law_is_state" = true)
    (k__law_is_state : PySem.W.keepIn K (.ref f__law_is_state) = true)
    (g__law_accept : PySem.W.nsIn K mainGlobals "_law_accept" = some (some (.ref f__law_accept)))
    (l__law_accept : K.lookup f__law_accept = some ⟨oc__law_accept, od__law_accept, .func (PySem.W.fnOf "_law_accept" "_law_accept" (defArgs s__law_accept) (defBody s__law_accept) (defScope s__law_accept) .none kV__law_accept dc__law_accept pm__law_accept an__law_accept cd__law_accept ct__law_accept), sl__law_accept⟩)
    (c__law_accept : PySem.W.codeIn K cd__law_accept "_law_accept" = true)
    (k__law_accept : PySem.W.keepIn K (.ref f__law_accept) = true)
    (g__law_deed : PySem.W.nsIn K mainGlobals "_law_deed" = some (some (.ref f__law_deed)))
    (l__law_deed : K.lookup f__law_deed = some ⟨oc__law_deed, od__law_deed, .func (PySem.W.fnOf "_law_deed" "_law_deed" (defArgs s__law_deed) (defBody s__law_deed) (defScope s__law_deed) .none kV__law_deed dc__law_deed pm__law_deed an__law_deed cd__law_deed ct__law_deed), sl__law_deed⟩)
    (c__law_deed : PySem.W.codeIn K cd__law_deed "_law_deed" = true)
    (k__law_deed : PySem.W.keepIn K (.ref f__law_deed) = true)
    (g_law : PySem.W.nsIn K mainGlobals "law" = some (some (.ref f_law)))
    (l_law : K.lookup f_law = some ⟨oc_law, od_law, .func (PySem.W.fnOf "law" "law" (defArgs s_law) (defBody s_law) (defScope s_law) .none kV_law dc_law pm_law an_law cd_law ct_law), sl_law⟩)
    (c_law : PySem.W.codeIn K cd_law "law" = true)
    (k_law : PySem.W.keepIn K (.ref f_law) = true)
    (pg_Acceptor : PySem.W.plainGet K C_Acceptor Str.empty = true)
    (hd_Acceptor : PySem.W.hasDictIn K C_Acceptor = true)
    (po_Acceptor : PySem.W.plainOver K C_Acceptor = true)
    (sa_Acceptor : PySem.W.findIn K (.ref C_Acceptor) "__setattr__" = some (some (.builtin "object.__setattr__")))
    (mk_Acceptor : PySem.W.makesIn K C_Acceptor = true)
    (kc_Acceptor : PySem.W.keepIn K (.ref C_Acceptor) = true)
    (na_Acceptor_promised : PySem.W.findIn K (.ref C_Acceptor) "promised" = some none)
    (na_Acceptor_base : PySem.W.findIn K (.ref C_Acceptor) "base" = some none)
    (na_Acceptor__accepted : PySem.W.findIn K (.ref C_Acceptor) "_accepted" = some none)
    (n_range : PySem.W.nsIn K mainGlobals "range" = some none)
    (n_min : PySem.W.nsIn K mainGlobals "min" = some none)
    (n_len : PySem.W.nsIn K mainGlobals "len" = some none)
    (n_abs : PySem.W.nsIn K mainGlobals "abs" = some none)
    (n_int : PySem.W.nsIn K mainGlobals "int" = some none)
    (n_isinstance : PySem.W.nsIn K mainGlobals "isinstance" = some none)
    (n_tuple : PySem.W.nsIn K mainGlobals "tuple" = some none)
    (n_max : PySem.W.nsIn K mainGlobals "max" = some none)
    (n_sorted : PySem.W.nsIn K mainGlobals "sorted" = some none)
    (n_bool : PySem.W.nsIn K mainGlobals "bool" = some none) :
    ∃ fd : FuncData, (∀ (s : Shared) (v : Value), BindsTo s fd ⟨[v], []⟩ [("script", v)]) ∧ ∀ base : Heap, K.In base → base.Ns mainGlobals mg → FnOk l.prog w K mg base CX0 4 fa fd ["script"] (sp_law K) := by
  have e : fa = f_law := by
    have z := hfa.symm.trans (PySem.W.mg_of X G g_law)
    injection z with z
    injection z
  rw [e]
  let T : TX K mg := ⟨C_Acceptor, f__is_record, (PySem.W.fnOf "_is_record" "_is_record" (defArgs s__is_record) (defBody s__is_record) (defScope s__is_record) .none kV__is_record dc__is_record pm__is_record an__is_record cd__is_record ct__is_record), (fun_mk (st := s__is_record) l__is_record c__is_record k__is_record), ((fun_mk (st := s__is_record) l__is_record c__is_record k__is_record).binds (ps := ["record", "word", "size"]) fun _ _ _ _ _ _ us hl => match us, hl with | [_, _, _], _ => rfl), (PySem.W.mg_of X G g__is_record), f_Acceptor___init__, (PySem.W.fnOf "__init__" "Acceptor.__init__" (defArgs s_Acceptor___init__) (defBody s_Acceptor___init__) (defScope s_Acceptor___init__) .none kV_Acceptor___init__ dc_Acceptor___init__ pm_Acceptor___init__ an_Acceptor___init__ cd_Acceptor___init__ ct_Acceptor___init__), (fun_mk (st := s_Acceptor___init__) l_Acceptor___init__ c_Acceptor___init__ k_Acceptor___init__), ((fun_mk (st := s_Acceptor___init__) l_Acceptor___init__ c_Acceptor___init__ k_Acceptor___init__).binds (ps := ["self"]) fun _ _ _ _ _ _ us hl => match us, hl with | [_], _ => rfl), f_Acceptor_prepare, (PySem.W.fnOf "prepare" "Acceptor.prepare" (defArgs s_Acceptor_prepare) (defBody s_Acceptor_prepare) (defScope s_Acceptor_prepare) .none kV_Acceptor_prepare dc_Acceptor_prepare pm_Acceptor_prepare an_Acceptor_prepare cd_Acceptor_prepare ct_Acceptor_prepare), (fun_mk (st := s_Acceptor_prepare) l_Acceptor_prepare c_Acceptor_prepare k_Acceptor_prepare), ((fun_mk (st := s_Acceptor_prepare) l_Acceptor_prepare c_Acceptor_prepare k_Acceptor_prepare).binds (ps := ["self", "ballot", "first"]) fun _ _ _ _ _ _ us hl => match us, hl with | [_, _, _], _ => rfl), ⟨m_Acceptor_prepare, i_Acceptor_prepare, k_Acceptor_prepare⟩, f_Acceptor_accept, (PySem.W.fnOf "accept" "Acceptor.accept" (defArgs s_Acceptor_accept) (defBody s_Acceptor_accept) (defScope s_Acceptor_accept) .none kV_Acceptor_accept dc_Acceptor_accept pm_Acceptor_accept an_Acceptor_accept cd_Acceptor_accept ct_Acceptor_accept), (fun_mk (st := s_Acceptor_accept) l_Acceptor_accept c_Acceptor_accept k_Acceptor_accept), ((fun_mk (st := s_Acceptor_accept) l_Acceptor_accept c_Acceptor_accept k_Acceptor_accept).binds (ps := ["self", "ballot", "slot", "value"]) fun _ _ _ _ _ _ us hl => match us, hl with | [_, _, _, _], _ => rfl), ⟨m_Acceptor_accept, i_Acceptor_accept, k_Acceptor_accept⟩, f_Acceptor_cut, (PySem.W.fnOf "cut" "Acceptor.cut" (defArgs s_Acceptor_cut) (defBody s_Acceptor_cut) (defScope s_Acceptor_cut) .none kV_Acceptor_cut dc_Acceptor_cut pm_Acceptor_cut an_Acceptor_cut cd_Acceptor_cut ct_Acceptor_cut), (fun_mk (st := s_Acceptor_cut) l_Acceptor_cut c_Acceptor_cut k_Acceptor_cut), ((fun_mk (st := s_Acceptor_cut) l_Acceptor_cut c_Acceptor_cut k_Acceptor_cut).binds (ps := ["self", "base"]) fun _ _ _ _ _ _ us hl => match us, hl with | [_, _], _ => rfl), ⟨m_Acceptor_cut, i_Acceptor_cut, k_Acceptor_cut⟩, f_Acceptor_replay, (PySem.W.fnOf "replay" "Acceptor.replay" (defArgs s_Acceptor_replay) (defBody s_Acceptor_replay) (defScope s_Acceptor_replay) .none kV_Acceptor_replay dc_Acceptor_replay pm_Acceptor_replay an_Acceptor_replay cd_Acceptor_replay ct_Acceptor_replay), (fun_mk (st := s_Acceptor_replay) l_Acceptor_replay c_Acceptor_replay k_Acceptor_replay), ((fun_mk (st := s_Acceptor_replay) l_Acceptor_replay c_Acceptor_replay k_Acceptor_replay).binds (ps := ["self", "record"]) fun _ _ _ _ _ _ us hl => match us, hl with | [_, _], _ => rfl), ⟨m_Acceptor_replay, i_Acceptor_replay, k_Acceptor_replay⟩, f__law_draws, (PySem.W.fnOf "_law_draws" "_law_draws" (defArgs s__law_draws) (defBody s__law_draws) (defScope s__law_draws) .none kV__law_draws dc__law_draws pm__law_draws an__law_draws cd__law_draws ct__law_draws), (fun_mk (st := s__law_draws) l__law_draws c__law_draws k__law_draws), ((fun_mk (st := s__law_draws) l__law_draws c__law_draws k__law_draws).binds (ps := ["script"]) fun _ _ _ _ _ _ us hl => match us, hl with | [_], _ => rfl), (PySem.W.mg_of X G g__law_draws), f__law_rows, (PySem.W.fnOf "_law_rows" "_law_rows" (defArgs s__law_rows) (defBody s__law_rows) (defScope s__law_rows) .none kV__law_rows dc__law_rows pm__law_rows an__law_rows cd__law_rows ct__law_rows), (fun_mk (st := s__law_rows) l__law_rows c__law_rows k__law_rows), ((fun_mk (st := s__law_rows) l__law_rows c__law_rows k__law_rows).binds (ps := ["kept", "first"]) fun _ _ _ _ _ _ us hl => match us, hl with | [_, _], _ => rfl), (PySem.W.mg_of X G g__law_rows), f__law_is_state, (PySem.W.fnOf "_law_is_state" "_law_is_state" (defArgs s__law_is_state) (defBody s__law_is_state) (defScope s__law_is_state) .none kV__law_is_state dc__law_is_state pm__law_is_state an__law_is_state cd__law_is_state ct__law_is_state), (fun_mk (st := s__law_is_state) l__law_is_state c__law_is_state k__law_is_state), ((fun_mk (st := s__law_is_state) l__law_is_state c__law_is_state k__law_is_state).binds (ps := ["acceptor", "model"]) fun _ _ _ _ _ _ us hl => match us, hl with | [_, _], _ => rfl), (PySem.W.mg_of X G g__law_is_state), f__law_accept, (PySem.W.fnOf "_law_accept" "_law_accept" (defArgs s__law_accept) (defBody s__law_accept) (defScope s__law_accept) .none kV__law_accept dc__law_accept pm__law_accept an__law_accept cd__law_accept ct__law_accept), (fun_mk (st := s__law_accept) l__law_accept c__law_accept k__law_accept), ((fun_mk (st := s__law_accept) l__law_accept c__law_accept k__law_accept).binds (ps := ["model", "ballot", "slot", "value"]) fun _ _ _ _ _ _ us hl => match us, hl with | [_, _, _, _], _ => rfl), (PySem.W.mg_of X G g__law_accept), f__law_deed, (PySem.W.fnOf "_law_deed" "_law_deed" (defArgs s__law_deed) (defBody s__law_deed) (defScope s__law_deed) .none kV__law_deed dc__law_deed pm__law_deed an__law_deed cd__law_deed ct__law_deed), (fun_mk (st := s__law_deed) l__law_deed c__law_deed k__law_deed), ((fun_mk (st := s__law_deed) l__law_deed c__law_deed k__law_deed).binds (ps := ["acceptor", "model", "records", "kind", "ballot", "slot", "value"]) fun _ _ _ _ _ _ us hl => match us, hl with | [_, _, _, _, _, _, _], _ => rfl), (PySem.W.mg_of X G g__law_deed), f_law, (PySem.W.fnOf "law" "law" (defArgs s_law) (defBody s_law) (defScope s_law) .none kV_law dc_law pm_law an_law cd_law ct_law), (fun_mk (st := s_law) l_law c_law k_law), ((fun_mk (st := s_law) l_law c_law k_law).binds (ps := ["script"]) fun _ _ _ _ _ _ us hl => match us, hl with | [_], _ => rfl), (PySem.W.mg_of X G g_law), ⟨pg_Acceptor, hd_Acceptor, po_Acceptor, sa_Acceptor⟩, (PySem.W.mg_of X G gc_Acceptor), ⟨mk_Acceptor, m_Acceptor___init__, i_Acceptor___init__, kc_Acceptor⟩, na_Acceptor_promised, na_Acceptor_base, na_Acceptor__accepted, (PySem.W.mg_none_of X G n_range), (PySem.W.mg_none_of X G n_min), (PySem.W.mg_none_of X G n_len), (PySem.W.mg_none_of X G n_abs), (PySem.W.mg_none_of X G n_int), (PySem.W.mg_none_of X G n_isinstance), (PySem.W.mg_none_of X G n_tuple), (PySem.W.mg_none_of X G n_max), (PySem.W.mg_none_of X G n_sorted), (PySem.W.mg_none_of X G n_bool)⟩
  exact ⟨T.d_law, fun s v => .of_eq rfl, fun base _ _ => ok_law T⟩
end My
open PySem PySem.W PyProof.Rows
set_option maxHeartbeats 0 in
theorem PySem.Challenge.cw_majordomo_k16_acceptor_keeps_holds : PySem.Challenge.rw_majordomo_k16_acceptor_keeps.Holds := by
  w_on; o_law; k_head; (case hw => w_witness2)
  k_fill
  refine L2.walk_of (l := PySem.Challenge.rw_majordomo_k16_acceptor_keeps) (n := 63) (k := 4) (x := "script") (CX := (fun _ => L2.CX0)) (sp := fun w => My.sp_law _) rfl (by decide) rfl ⟨rfl, by decide, by decide⟩ (fun w h Y => PySem.W.kIn_of Y) ?F (fun _ _ a ns hl _ hS => ⟨a, ns, rfl, hS, hl, fun _ => rfl⟩) (fun _ _ _ _ _ h => h)
  case F =>
    intro w mg fa h KX G hmg
    refine' My.all_mk KX G hmg ?g__is_record ?l__is_record ?c__is_record ?k__is_record ?gc_Acceptor ?m_Acceptor___init__ ?i_Acceptor___init__ ?l_Acceptor___init__ ?c_Acceptor___init__ ?k_Acceptor___init__ ?m_Acceptor_prepare ?i_Acceptor_prepare ?l_Acceptor_prepare ?c_Acceptor_prepare ?k_Acceptor_prepare ?m_Acceptor_accept ?i_Acceptor_accept ?l_Acceptor_accept ?c_Acceptor_accept ?k_Acceptor_accept ?m_Acceptor_cut ?i_Acceptor_cut ?l_Acceptor_cut ?c_Acceptor_cut ?k_Acceptor_cut ?m_Acceptor_replay ?i_Acceptor_replay ?l_Acceptor_replay ?c_Acceptor_replay ?k_Acceptor_replay ?g__law_draws ?l__law_draws ?c__law_draws ?k__law_draws ?g__law_rows ?l__law_rows ?c__law_rows ?k__law_rows ?g__law_is_state ?l__law_is_state ?c__law_is_state ?k__law_is_state ?g__law_accept ?l__law_accept ?c__law_accept ?k__law_accept ?g__law_deed ?l__law_deed ?c__law_deed ?k__law_deed ?g_law ?l_law ?c_law ?k_law ?pg_Acceptor ?hd_Acceptor ?po_Acceptor ?sa_Acceptor ?mk_Acceptor ?kc_Acceptor ?na_Acceptor_promised ?na_Acceptor_base ?na_Acceptor__accepted ?n_range ?n_min ?n_len ?n_abs ?n_int ?n_isinstance ?n_tuple ?n_max ?n_sorted ?n_bool
    (case g__is_record => k_is); (case l__is_record => k_is); (case c__is_record => k_is); (case k__is_record => k_is); (case gc_Acceptor => k_is); (case m_Acceptor___init__ => k_is); (case i_Acceptor___init__ => k_is); (case l_Acceptor___init__ => k_is); (case c_Acceptor___init__ => k_is); (case k_Acceptor___init__ => k_is); (case m_Acceptor_prepare => k_is); (case i_Acceptor_prepare => k_is); (case l_Acceptor_prepare => k_is); (case c_Acceptor_prepare => k_is); (case k_Acceptor_prepare => k_is); (case m_Acceptor_accept => k_is); (case i_Acceptor_accept => k_is); (case l_Acceptor_accept => k_is); (case c_Acceptor_accept => k_is); (case k_Acceptor_accept => k_is); (case m_Acceptor_cut => k_is); (case i_Acceptor_cut => k_is); (case l_Acceptor_cut => k_is); (case c_Acceptor_cut => k_is); (case k_Acceptor_cut => k_is); (case m_Acceptor_replay => k_is); (case i_Acceptor_replay => k_is); (case l_Acceptor_replay => k_is); (case c_Acceptor_replay => k_is); (case k_Acceptor_replay => k_is); (case g__law_draws => k_is); (case l__law_draws => k_is); (case c__law_draws => k_is); (case k__law_draws => k_is); (case g__law_rows => k_is); (case l__law_rows => k_is); (case c__law_rows => k_is); (case k__law_rows => k_is); (case g__law_is_state => k_is); (case l__law_is_state => k_is); (case c__law_is_state => k_is); (case k__law_is_state => k_is); (case g__law_accept => k_is); (case l__law_accept => k_is); (case c__law_accept => k_is); (case k__law_accept => k_is); (case g__law_deed => k_is); (case l__law_deed => k_is); (case c__law_deed => k_is); (case k__law_deed => k_is); (case g_law => k_is); (case l_law => k_is); (case c_law => k_is); (case k_law => k_is); (case pg_Acceptor => k_is); (case hd_Acceptor => k_is); (case po_Acceptor => k_is); (case sa_Acceptor => k_is); (case mk_Acceptor => k_is); (case kc_Acceptor => k_is); (case na_Acceptor_promised => k_is); (case na_Acceptor_base => k_is); (case na_Acceptor__accepted => k_is); (case n_range => k_is); (case n_min => k_is); (case n_len => k_is); (case n_abs => k_is); (case n_int => k_is); (case n_isinstance => k_is); (case n_tuple => k_is); (case n_max => k_is); (case n_sorted => k_is); (case n_bool => k_is)

