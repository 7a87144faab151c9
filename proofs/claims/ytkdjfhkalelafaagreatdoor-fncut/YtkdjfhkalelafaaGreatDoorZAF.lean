/- Several texts laid together: ImX, ImM. -/
import Derived.Test.YtkdjfhkalelafaaGreatDoorZAC
import Derived.Test.YtkdjfhkalelafaaGreatDoorZAE
namespace Go.Proofs.YtkdjfhkalelafaaGreatDoor
open Go.RowKit
def zai (ws:List Ino) (z:Int):Int:=(ws.getD z.toNat ⟨0,0,0,0,0,0,0,0,0,0,0⟩).kind
theorem zbn {ws:List Ino} {i:Nat} (h:i < ws.length):zai ws (i:Int) = ws[i].kind:=by
 unfold zai
 rw [Int.toNat_natCast,List.getD_eq_getElem?_getD,List.getElem?_eq_getElem h]; rfl
def zdt (y x:Den):Bool:=decide (0 ≤ y.child) && (y.dir == x.dir && y.name.toList == x.name.toList)
def zcv (ws:List Ino) (ps:List Den) (i:Nat) (x:Den):Bool:=if x.child = -1 then x.freeB else (decide (1 ≤ x.child ∧ x.child ≤ 15) && (decide (0 ≤ x.dir ∧ x.dir ≤ 15) && (nmB x.name && (!(zai ws x.child == 0) && (zai ws x.dir == 2 && (ps.take i).all fun y => !zdt y x)))))
def zim (ws:List Ino) (ps:List Den):Bool:=decide (∀ i (h:i < ps.length),zcv ws ps i ps[i] = true)
def fitB (ws:List Ino) (x:Den):Bool:=zai ws x.dir == 2 && !(zai ws x.child == 0)
def zpo (ws:List Ino) (ts:List Den):Bool:=decide (∀ k (h:k < ts.length),fitB ws ts[k] = true)
def okDs (ps:List Den):Bool:=decide (∀ k (h:k < ps.length),ps[k].okB = true)
theorem zti {x:Den} (h:x.okB = true):x.freeB = true ↔ x.child = -1:=by
 constructor
 ·intro hf
  unfold Den.freeB at hf
  simp only [Bool.and_eq_true,beq_iff_eq] at hf
  exact hf.2.2
 ·intro hc
  unfold Den.okB at h
  simp only [Bool.or_eq_true,Bool.and_eq_true,decide_eq_true_eq] at h
  rcases h with h | h
  ·exact h
  ·omega
theorem zmf {x:Den} (h:x.okB = true) (hf:¬ x.child = -1):(1 ≤ x.child ∧ x.child ≤ 15) ∧ (0 ≤ x.dir ∧ x.dir ≤ 15) ∧ nmB x.name = true:=by
 unfold Den.okB at h
 simp only [Bool.or_eq_true,Bool.and_eq_true,decide_eq_true_eq] at h
 rcases h with h | h
 ·unfold Den.freeB at h
  simp only [Bool.and_eq_true,beq_iff_eq] at h
  exact absurd h.2.2 hf
 ·exact h
theorem yasj {ws:List Ino} {ps:List Den} (h:zim ws ps = true):okDs ps = true:=by
 have h:=of_decide_eq_true h
 refine decide_eq_true fun k hk => ?_
 have:=h k hk
 unfold zcv at this
 unfold Den.okB
 split at this
 ·rw [this]; rfl
 ·simp only [Bool.and_eq_true] at this
  rw [this.1,this.2.1,this.2.2.1]; simp
def yawz (y x:Den):Prop:=y.dir = x.dir ∧ y.name.toList = x.name.toList
theorem yagu (l:List Den):zoo (l.map zil) = true ↔ l.Pairwise fun y x => ¬ yawz y x:=by
 unfold zoo
 rw [decide_eq_true_eq,List.pairwise_iff_getElem]
 constructor
 ·intro h i j hi hj hij hs
  have:=h j (by simpa using hj)
  rw [← List.map_take] at this
  unfold hasD at this
  rw [List.any_eq_false] at this
  refine this (zil l[i]) (List.mem_map.2 ⟨l[i],?_,rfl⟩) ?_
  ·exact List.mem_take_iff_getElem.2 ⟨i,Nat.lt_min.2 ⟨hij,hi⟩,rfl⟩
  ·simp only [List.getElem_map]
   unfold zko zil
   simp [hs.1,hs.2]
 ·intro h k hk
  rw [← List.map_take]
  unfold hasD
  rw [List.any_eq_false]
  intro y hy he
  obtain ⟨z,hz,rfl⟩:=List.mem_map.1 hy
  obtain ⟨i,hi,rfl⟩:=List.mem_take_iff_getElem.1 hz
  have hk':k < l.length:=by simpa using hk
  simp only [Nat.lt_min] at hi
  refine h i k hi.2 hk' hi.1 ?_
  simp only [List.getElem_map] at he
  unfold zko zil at he
  simp only [Bool.and_eq_true,beq_iff_eq] at he
  exact ⟨he.1.symm,he.2.1.symm⟩
theorem yarv {ws:List Ino} {ps:List Den} (h:okDs ps = true):zim ws ps = (zpo ws (zas ps) && zoo ((zas ps).map zil)):=by
 have h:=of_decide_eq_true h
 rw [Bool.eq_iff_iff,Bool.and_eq_true,yagu]
 unfold zas
 rw [List.pairwise_filter,List.pairwise_iff_getElem]
 unfold zim zpo
 rw [decide_eq_true_eq,decide_eq_true_eq]
 have hfree:∀ k (hk:k < ps.length),(!ps[k].freeB) = true ↔ ¬ ps[k].child = -1:=fun k hk => by
  rw [← zti (h k hk)]; simp
 constructor
 ·intro hE
  refine ⟨fun k hk => ?_,fun i j hi hj hij fi fj hs => ?_⟩
  ·have hm:=List.getElem_mem hk
   obtain ⟨hm,hf⟩:=List.mem_filter.1 hm
   obtain ⟨i,hi,e⟩:=List.getElem_of_mem hm
   rw [← e] at hf ⊢
   have:=hE i hi
   unfold zcv at this
   rw [if_neg ((hfree i hi).1 hf)] at this
   simp only [Bool.and_eq_true] at this
   unfold fitB
   rw [this.2.2.2.1,this.2.2.2.2.1]; rfl
  ·have:=hE j hj
   unfold zcv at this
   rw [if_neg ((hfree j hj).1 fj)] at this
   simp only [Bool.and_eq_true,List.all_eq_true] at this
   have:=this.2.2.2.2.2 ps[i] (List.mem_take_iff_getElem.2 ⟨i,Nat.lt_min.2 ⟨hij,hi⟩,rfl⟩)
   unfold zdt at this
   have c:=zmf (h i hi) ((hfree i hi).1 fi)
   simp [hs.1,hs.2] at this
   omega
 ·rintro ⟨hF,hP⟩ i hi
  unfold zcv
  split
  ·rename_i hc
   exact (zti (h i hi)).2 hc
  ·rename_i hc
   obtain ⟨a,b,c⟩:=zmf (h i hi) hc
   have fi:=(hfree i hi).2 hc
   have hm:ps[i] ∈ ps.filter fun x => !x.freeB:=List.mem_filter.2 ⟨List.getElem_mem _,fi⟩
   obtain ⟨k,hk,e⟩:=List.getElem_of_mem hm
   have:=hF k hk
   rw [e] at this
   unfold fitB at this
   simp only [Bool.and_eq_true] at this
   rw [decide_eq_true a,decide_eq_true b,c,this.1,this.2]
   simp only [Bool.true_and,List.all_eq_true]
   intro y hy
   obtain ⟨j,hj,rfl⟩:=List.mem_take_iff_getElem.1 hy
   simp only [Nat.lt_min] at hj
   rw [Bool.not_eq_true']
   unfold zdt
   rw [Bool.and_eq_false_iff]
   by_cases hn:ps[j].child = -1
   ·left; exact decide_eq_false (by omega)
   ·right
    rw [Bool.eq_false_iff]
    intro he
    simp only [Bool.and_eq_true,beq_iff_eq] at he
    exact hP j i hj.2 hi hj.1 ((hfree j hj.2).2 hn) fi he
def zbp (l:List Int) (t:Int):List Int:=(l.filter fun e => e % 4 == t).map fun e => e / 4
theorem zfz (zs:List Int):zfl zs = true ↔ zs.Pairwise fun x y => x ≠ y:=by
 unfold zfl
 rw [decide_eq_true_eq,List.pairwise_iff_getElem]
 constructor
 ·intro h i j hi hj hij he
  have:=h j hj
  unfold zhv at this
  rw [List.contains_eq_any_beq,List.any_eq_false] at this
  refine this zs[i] (List.mem_take_iff_getElem.2 ⟨i,Nat.lt_min.2 ⟨hij,hi⟩,rfl⟩) ?_
  rw [beq_iff_eq]; exact he.symm
 ·intro h k hk
  unfold zhv
  rw [List.contains_eq_any_beq,List.any_eq_false]
  intro y hy he
  obtain ⟨i,hi,rfl⟩:=List.mem_take_iff_getElem.1 hy
  have hi:=Nat.lt_min.1 hi
  rw [beq_iff_eq] at he
  exact h i k hi.2 hk hi.1 he.symm
theorem zpc {l:List Int} (h:∀ e ∈ l,e % 4 = 1 ∨ e % 4 = 2):(zfl (zbp l 1) && zfl (zbp l 2)) = zfl l:=by
 rw [Bool.eq_iff_iff,Bool.and_eq_true,zfz,zfz,zfz]
 unfold zbp
 rw [List.pairwise_map,List.pairwise_map,List.pairwise_filter,List.pairwise_filter]
 constructor
 ·rintro ⟨h1,h2⟩
  rw [List.pairwise_iff_getElem] at *
  intro i j hi hj hij he
  rcases h l[i] (List.getElem_mem _) with q | q
  ·exact h1 i j hi hj hij (by simpa using q) (by rw [← he]; simpa using q) (by rw [he])
  ·exact h2 i j hi hj hij (by simpa using q) (by rw [← he]; simpa using q) (by rw [he])
 ·intro hp
  refine ⟨hp.imp fun {a b} hne pa pb he => hne ?_,hp.imp fun {a b} hne pa pb he => hne ?_⟩
  ·have:a % 4 = 1:=by simpa using pa
   have:b % 4 = 1:=by simpa using pb
   omega
  ·have:a % 4 = 2:=by simpa using pa
   have:b % 4 = 2:=by simpa using pb
   omega
theorem yags {e:Int} (h:zet e = true) (h0:¬ e = 0):0 ≤ e ∧ (e % 4 = 1 ∨ e % 4 = 2):=by
 unfold zet zhh at h
 simp only [Bool.and_eq_true,decide_eq_true_eq] at h
 omega
theorem zoj {ws:List Ino} (h:∀ i (h:i < ws.length),∀ z ∈ ws[i].map,zet z = true):∀ e ∈ zap ws,0 ≤ e ∧ (e % 4 = 1 ∨ e % 4 = 2):=by
 intro e he
 unfold zap at he
 obtain ⟨x,hx,he⟩:=List.mem_flatMap.1 he
 obtain ⟨i,hi,rfl⟩:=List.getElem_of_mem hx
 unfold zdg at he
 obtain ⟨h1,h2⟩:=List.mem_filter.1 he
 exact yags (h i hi e h1) (by simpa using h2)
def upA (ts:List Den):Nat → Int → Int
 | 0,_ => 0
 | k + 1,j => if (ts.getD k ⟨0,⟨#[]⟩,0⟩).child = j then (ts.getD k ⟨0,⟨#[]⟩,0⟩).dir else upA ts k j
def zdd (f:Int → Int):Nat → Int → Int
 | 0,i => i
 | n + 1,i => zdd f n (f i)
def lcB (ws:List Ino) (ts:List Den):Bool:=decide (∀ i (h:i < ws.length),ws[i].links = (if i = 0 then 1 else 0) + (zlr ts i ts.length:Int))
def dhB (ws:List Ino) (ts:List Den):Bool:=decide (∀ i (h:i < ws.length),ws[i].kind = 2 → zdd (upA ts ts.length) 16 (i:Int) = 0)
theorem zey (f:Int → Int):∀ (a b:Nat) (i:Int),zdd f (a + b) i = zdd f b (zdd f a i)
 | 0,b,i => by rw [Nat.zero_add]; rfl
 | a + 1,b,i => by
  rw [show a + 1 + b = (a + b) + 1 by omega]
  exact zey f a b (f i)
theorem zki (f:Int → Int) (h:f 0 = 0):∀ n,zdd f n 0 = 0
 | 0 => rfl
 | n + 1 => by
  show zdd f n (f 0) = 0
  rw [h]; exact zki f h n
theorem yahz:∀ (m:Nat) (f:Nat → Nat),(∀ k,k ≤ m → f k < m) → ∃ a b,a < b ∧ b ≤ m ∧ f a = f b
 | 0,f,h => absurd (h 0 (Nat.le_refl _)) (by omega)
 | m + 1,f,h => by
  by_cases q:∃ a,a ≤ m ∧ f a = f (m + 1)
  ·obtain ⟨a,ha,e⟩:=q
   exact ⟨a,m + 1,by omega,Nat.le_refl _,e⟩
  ·have q':∀ a,a ≤ m → f a ≠ f (m + 1):=fun a ha e => q ⟨a,ha,e⟩
   obtain ⟨a,b,h1,h2,e⟩:=yahz m (fun k => if f (m + 1) < f k then f k - 1 else f k) (fun k hk => by
    have h1:=h k (by omega)
    have h2:=h (m + 1) (Nat.le_refl _)
    have h3:=q' k hk
    show (if f (m + 1) < f k then f k - 1 else f k) < m
    split <;> omega)
   refine ⟨a,b,h1,by omega,?_⟩
   have e':(if f (m + 1) < f a then f a - 1 else f a) = (if f (m + 1) < f b then f b - 1 else f b):=e
   have ha:=q' a (by omega)
   have hb:=q' b (by omega)
   split at e' <;> split at e' <;> omega
theorem yaxf {f:Int → Int} (f0:f 0 = 0) (i:Int) (hr:∀ n,0 ≤ zdd f n i ∧ zdd f n i ≤ 15) (h:zdd f 16 i = 0):zdd f 15 i = 0:=by
 apply Classical.byContradiction
 intro hn
 have hall:∀ n,n ≤ 15 → ¬ zdd f n i = 0:=fun n hn' e => hn (by
  rw [show 15 = n + (15 - n) by omega,zey,e,zki f f0])
 obtain ⟨a,b,h1,h2,e⟩:=yahz 15 (fun k => (zdd f k i).toNat - 1) (fun k hk => by
  have:=hr k
  have:=hall k hk
  show (zdd f k i).toNat - 1 < 15
  omega)
 have e':zdd f a i = zdd f b i:=by
  have:=hr a; have:=hr b; have:=hall a (by omega); have:=hall b (by omega)
  have e:(zdd f a i).toNat - 1 = (zdd f b i).toNat - 1:=e
  omega
 have z:zdd f (a + (16 - b)) i = 0:=by
  rw [zey,e',← zey,show b + (16 - b) = 16 by omega,h]
 exact hall (a + (16 - b)) (by omega) z
theorem yaai {ps:List Den} {f:Int → Int} (f0:f 0 = 0):∀ (n:Nat) (d:Int),(∀ m,¬ zdd f m d = 0 → upD ps (zdd f m d) = f (zdd f m d) ∧ 0 ≤ f (zdd f m d)) → (zcr ps (n + 1) d = true ↔ zdd f n d = 0)
 | 0,d,H => by
  unfold zcr
  by_cases h:d = 0
  ·rw [if_pos h]; exact ⟨fun _ => h,fun _ => rfl⟩
  ·rw [if_neg h]
   constructor
   ·intro q
    split at q
    ·cases q
    ·unfold zcr at q; cases q
   ·intro q; exact absurd q h
 | n + 1,d,H => by
  unfold zcr
  by_cases h:d = 0
  ·rw [if_pos h,h]
   exact ⟨fun _ => zki f f0 _,fun _ => rfl⟩
  ·rw [if_neg h]
   obtain ⟨e1,e2⟩:=H 0 h
   have e1:upD ps d = f d:=e1
   have e2:0 ≤ f d:=e2
   rw [e1,if_neg (by omega)]
   exact yaai f0 n (f d) (fun m hm => H (m + 1) hm)
theorem zvz {ps:List Den} (i:Nat):zlr (zas ps) i (zas ps).length = zlr ps i ps.length:=by
 unfold zlr zas
 rw [List.take_length,List.take_length,List.filter_filter]
 congr 1
 apply List.filter_congr
 intro x _
 cases hf:x.freeB with
 | false => simp
 | true =>
  unfold Den.freeB at hf
  simp only [Bool.and_eq_true,beq_iff_eq] at hf
  have:(x.child == (i:Int)) = false:=by rw [beq_eq_false_iff_ne]; omega
  simp [this]
theorem yavj:∀ (ts:List Den) (c:Int),(ts.filter fun x => x.child == c).length = 1 → ∃ x ∈ ts,x.child = c ∧ upD ts c = x.dir ∧ upA ts ts.length c = x.dir:=by
 intro ts c h
 obtain ⟨x,hx⟩:=List.length_eq_one_iff.1 h
 have hm:x ∈ ts.filter fun x => x.child == c:=by rw [hx]; simp
 obtain ⟨h1,h2⟩:=List.mem_filter.1 hm
 have h2:x.child = c:=by simpa using h2
 have uniq:∀ y ∈ ts,y.child = c → y = x:=fun y hy hc => by
  have:y ∈ ts.filter fun x => x.child == c:=List.mem_filter.2 ⟨hy,by simpa using hc⟩
  rw [hx] at this
  exact List.mem_singleton.1 this
 refine ⟨x,h1,h2,?_,?_⟩
 ·unfold upD
  cases hf:ts.find? fun x => x.child == c with
  | none =>
   rw [List.find?_eq_none] at hf
   exact absurd (by simpa using h2) (hf x h1)
  | some y =>
   have a:=List.mem_of_find?_eq_some hf
   have b:=List.find?_some hf
   rw [uniq y a (by simpa using b)]; rfl
 ·have H:∀ k,k ≤ ts.length → (∃ j,j < k ∧ ∃ h:j < ts.length,ts[j].child = c) → upA ts k c = x.dir:=by
   intro k
   induction k with
   | zero => rintro _ ⟨j,hj,_⟩; omega
   | succ k ih =>
    rintro hk ⟨j,hj,hl,e⟩
    unfold upA
    have hg:ts.getD k ⟨0,⟨#[]⟩,0⟩ = ts[k]:=by rw [List.getD_eq_getElem?_getD,List.getElem?_eq_getElem (by omega)]; rfl
    rw [hg]
    by_cases q:ts[k].child = c
    ·rw [if_pos q,uniq ts[k] (List.getElem_mem _) q]
    ·rw [if_neg q]
     refine ih (by omega) ⟨j,?_,hl,e⟩
     rcases Nat.lt_or_ge j k with a | a
     ·exact a
     ·have:j = k:=by omega
      subst this; exact absurd e q
  obtain ⟨j,hj,e⟩:=List.getElem_of_mem h1
  exact H ts.length (Nat.le_refl _) ⟨j,hj,hj,by rw [e]; exact h2⟩
theorem yasz:∀ (ts:List Den) (c:Int) (k:Nat),(∀ j (h:j < ts.length),¬ ts[j].child = c) → k ≤ ts.length → upA ts k c = 0:=by
 intro ts c k h
 induction k with
 | zero => intro _; rfl
 | succ k ih =>
  intro hk
  unfold upA
  have hg:ts.getD k ⟨0,⟨#[]⟩,0⟩ = ts[k]:=by rw [List.getD_eq_getElem?_getD,List.getElem?_eq_getElem (by omega)]; rfl
  rw [hg,if_neg (h k (by omega)),ih (by omega)]
theorem yago {ps:List Den} {c:Int} (hc:0 ≤ c):upD (zas ps) c = upD ps c:=by
 unfold upD zas
 rw [List.find?_filter]
 congr 2
 congr 1
 funext x
 cases hf:x.freeB with
 | false => simp; rw [Bool.eq_iff_iff]; simp
 | true =>
  unfold Den.freeB at hf
  simp only [Bool.and_eq_true,beq_iff_eq] at hf
  have:(x.child == c) = false:=by rw [beq_eq_false_iff_ne]; omega
  simp [this]
theorem yamg {ws:List Ino} {ps:List Den} (hl:ws.length = 16) (hd:∀ i (h:i < ws.length),ws[i].kind = 2 → ws[i].links = 1) (hok:okDs ps = true) (hfit:zpo ws (zas ps) = true) :
  zgg ws ps = (lcB ws (zas ps) && dhB ws (zas ps)):=by
 have hok:=of_decide_eq_true hok
 have hfit:=of_decide_eq_true hfit
 have hT:∀ x ∈ zas ps,(1 ≤ x.child ∧ x.child ≤ 15) ∧ (0 ≤ x.dir ∧ x.dir ≤ 15) ∧ zai ws x.dir = 2:=fun x hx => by
  obtain ⟨k,hk,e⟩:=List.getElem_of_mem hx
  have f:=hfit k hk
  rw [e] at f
  unfold fitB at f
  simp only [Bool.and_eq_true,beq_iff_eq] at f
  obtain ⟨hm,hf⟩:=List.mem_filter.1 hx
  obtain ⟨i,hi,e⟩:=List.getElem_of_mem hm
  have o:=hok i hi
  rw [e] at o
  have c:=zmf o (fun q => by rw [(zti o).2 q] at hf; cases hf)
  exact ⟨c.1,c.2.1,f.1⟩
 have f0:upA (zas ps) (zas ps).length 0 = 0:=yasz _ 0 _ (fun j h => by have:=hT _ (List.getElem_mem h); omega) (Nat.le_refl _)
 rw [Bool.eq_iff_iff,Bool.and_eq_true]
 unfold zgg lcB dhB
 rw [decide_eq_true_eq,decide_eq_true_eq,decide_eq_true_eq]
 have split:(∀ i (h:i < ws.length),zgm ps i ws[i] = true) ↔ (∀ i (h:i < ws.length),ws[i].links = (if i = 0 then 1 else 0) + (zlr (zas ps) i (zas ps).length:Int)) ∧ ∀ i (h:i < ws.length),ws[i].kind = 2 → zcr ps 16 i = true:=by
  constructor
  ·intro h
   refine ⟨fun i hi => ?_,fun i hi hk => ?_⟩
   ·have:=h i hi
    unfold zgm at this
    simp only [Bool.and_eq_true,decide_eq_true_eq] at this
    rw [zvz,this.1]
   ·have:=h i hi
    unfold zgm at this
    simp only [Bool.and_eq_true,Bool.or_eq_true,decide_eq_true_eq] at this
    exact this.2.resolve_left (fun q => q hk)
  ·rintro ⟨h1,h2⟩ i hi
   unfold zgm
   have:=h1 i hi
   rw [zvz] at this
   rw [decide_eq_true this.symm,Bool.true_and]
   by_cases hk:ws[i].kind = 2
   ·rw [h2 i hi hk,Bool.or_true]
   ·rw [decide_eq_true hk,Bool.true_or]
 rw [split]
 refine and_congr_right fun hc => ?_
 have step:∀ d:Int,0 ≤ d → d ≤ 15 → zai ws d = 2 → ¬ d = 0 → upD ps d = upA (zas ps) (zas ps).length d ∧ (0 ≤ upA (zas ps) (zas ps).length d ∧ upA (zas ps) (zas ps).length d ≤ 15) ∧ zai ws (upA (zas ps) (zas ps).length d) = 2:=by
  intro d h1 h2 hk hn
  obtain ⟨n,rfl⟩:∃ n:Nat,d = (n:Int):=⟨d.toNat,by omega⟩
  have hn16:n < ws.length:=by omega
  rw [zbn hn16] at hk
  have l1:=hd n hn16 hk
  have l2:=hc n hn16
  rw [l1,if_neg (by omega)] at l2
  have l3:((zas ps).filter fun x => x.child == (n:Int)).length = 1:=by
   unfold zlr at l2
   rw [List.take_length] at l2
   omega
  obtain ⟨x,hx,_,u1,u2⟩:=yavj (zas ps) (n:Int) l3
  rw [yago (by omega)] at u1
  rw [u2]
  have:=hT x hx
  exact ⟨u1,this.2.1,this.2.2⟩
 have road:∀ i:Int,0 ≤ i → i ≤ 15 → zai ws i = 2 → ∀ n,(0 ≤ zdd (upA (zas ps) (zas ps).length) n i ∧ zdd (upA (zas ps) (zas ps).length) n i ≤ 15) ∧ zai ws (zdd (upA (zas ps) (zas ps).length) n i) = 2:=by
  intro i h1 h2 hk n
  induction n generalizing i with
  | zero => exact ⟨⟨h1,h2⟩,hk⟩
  | succ n ih =>
   show (0 ≤ zdd _ n (upA _ _ i) ∧ zdd _ n (upA _ _ i) ≤ 15) ∧ zai ws (zdd _ n (upA _ _ i)) = 2
   by_cases q:i = 0
   ·rw [q,f0]
    rw [q] at hk
    exact ih 0 (by omega) (by omega) hk
   ·obtain ⟨_,a,b⟩:=step i h1 h2 hk q
    exact ih _ a.1 a.2 b
 refine forall_congr' fun i => forall_congr' fun hi => forall_congr' fun hk => ?_
 have hk':zai ws (i:Int) = 2:=by rw [zbn hi]; exact hk
 have R:=road (i:Int) (by omega) (by omega) hk'
 rw [yaai f0 15 (i:Int) (fun m hm => by
  obtain ⟨a,b⟩:=R m
  obtain ⟨c,d,_⟩:=step _ a.1 a.2 b hm
  exact ⟨c,d.1⟩)]
 constructor
 ·intro h
  rw [show 16 = 15 + 1 by omega,zey,h]
  exact zki _ f0 1
 ·exact yaxf f0 _ (fun n => (R n).1)
theorem yaor {ws:List Ino} {ps:List Den} (h:∀ i (h:i < ps.length),zcv ws ps i ps[i] = true):zim ws ps = true:=decide_eq_true h
theorem yahm {ws:List Ino} {ps:List Den} {i:Nat} (hi:i < ps.length) (h:zcv ws ps i ps[i] = false):zim ws ps = false:=decide_eq_false (fun x => by have:=x i hi; rw [h] at this; cases this)
theorem yaow {ws:List Ino} {ps:List Den} {i:Nat} {x:Den} (h:x.child = -1):zcv ws ps i x = x.freeB:=by unfold zcv; rw [if_pos h]
theorem yajw {ws:List Ino} {ps:List Den} {i:Nat} {x:Den} (h:¬ x.child = -1):zcv ws ps i x = (decide (1 ≤ x.child ∧ x.child ≤ 15) && (decide (0 ≤ x.dir ∧ x.dir ≤ 15) && (nmB x.name && (!(zai ws x.child == 0) && (zai ws x.dir == 2 && (ps.take i).all fun y => !zdt y x))))):=by unfold zcv; rw [if_neg h]
theorem yasr {ps:List Den} {i k:Nat} {x:Den} (hk:k < ps.length) (hi:k < i) (h:zdt ps[k] x = true):((ps.take i).all fun y => !zdt y x) = false:=by
 rw [List.all_eq_false]
 exact ⟨ps[k],List.mem_take_iff_getElem.2 ⟨k,Nat.lt_min.2 ⟨hi,hk⟩,rfl⟩,by rw [h]; decide⟩
theorem yatr {ps:List Den} {i:Nat} {x:Den} (h:∀ k (h:k < ps.length),k < i → zdt ps[k] x = false):((ps.take i).all fun y => !zdt y x) = true:=by
 rw [List.all_eq_true]
 intro y hy
 obtain ⟨k,hk,rfl⟩:=List.mem_take_iff_getElem.1 hy
 have hk:=Nat.lt_min.1 hk
 rw [h k hk.2 hk.1]
 rfl
set_option maxRecDepth 100000 in
set_option maxHeartbeats 8000000 in
theorem zpz (v:Value) (ws:List Ino) (ps:List Den) (w:World) (h:RdIm w v ws ps) (hl:ws.length = 16) (hn:ps.length ≤ 1048576) (hs:∀ k (h:k < ps.length),ps[k].name.size ≤ maxLen) :
  Calls Tryz.prog 71 #[v] w fun e w' => e = .returned (.bool (zim ws ps)) ∧ Below w.heap.size w w':=by
 obtain ⟨vW,vP,rfl,h1,h2⟩:=h
 obtain ⟨aW,cW,rfl,_,hcW⟩:=h1.shape
 obtain ⟨aP,cP,rfl,_,hcP⟩:=h2.shape
 obtain ⟨bW,oW,rfl,hblW,hcellW⟩:=hcW (by omega)
 have HW:=zaa hcellW
 have HZ:=zaa hcP
 have HS:=zaa hs
 have HL:=zaa hl
 have w16:(15:Int) < (ws.length:Int):=by omega
 clear h1 h2 hcP hcW hcellW hs hl
 obtain ⟨W,hW⟩:∃ W,W = w.alloc (.cells #[.slice (some ⟨bW,oW,none⟩) ws.length cW,.slice aP ps.length cP] 42):=⟨_,rfl⟩
 have CA:Hid (∀ w',Below W.heap.size W w' → w'.cell? ⟨w.heap.size,0,none⟩ = some (.slice (some ⟨bW,oW,none⟩) ws.length cW) ∧ w'.cell? ⟨w.heap.size,1,none⟩ = some (.slice aP ps.length cP)):=fun w' hb => by
  have:w'.heap[w.heap.size]? = some (.cells #[.slice (some ⟨bW,oW,none⟩) ws.length cW,.slice aP ps.length cP] 42 (0,0)):=(hb.block _ (by rw [hW]; simp)).trans (by rw [hW]; exact zah rfl)
  exact ⟨(zac this).1,(zac this).2.1⟩
 have BW:Hid (Below w.heap.size w W):=by rw [hW]; exact (Below.refl _ _).alloc (Nat.le_refl _) _
 have hz:w.heap.size ≤ W.heap.size:=BW.out.size
 go_enter Tryz.func71,Tryz.ntmps71
 go_wp2
 rw [← hW]
 clear hW
 go_loopw [3] (fun i wr => ∃ k:Nat,k ≤ ps.length ∧ i = .int .i64 k ∧ Hid (Below W.heap.size W wr ∧ ∀ j (h:j < ps.length),j < k → zcv ws ps j ps[j] = true)) (fun i _ => ps.length - (intOf i).toNat)
 case atStart => exact ⟨0,by omega,rfl,Below.refl _ _,fun j h a => absurd a (by omega)⟩
 case round =>
  obtain ⟨i,hi,rfl,J⟩:=hrel
  obtain ⟨x0,x1⟩:=CA.out wr J.out.1
  have J1:=zaa J.out.1
  have JW:=zaa (zab BW.out J.out.1 hz)
  have hzr:W.heap.size ≤ wr.heap.size:=J.out.1.size
  by_cases hlt:i < ps.length
  ·obtain ⟨b,o,rfl,hbl,hcell⟩:=HZ.out (by omega)
   obtain ⟨a0,a1,a2⟩:=hcell i hlt
   have d0:=(JW.out.cell (p:=⟨b,o + i * 3,none⟩) hbl).trans a0
   have d1:=(JW.out.cell (p:=⟨b,o + i * 3 + 1,none⟩) hbl).trans a1
   have d2:=(JW.out.cell (p:=⟨b,o + i * 3 + 2,none⟩) hbl).trans a2
   have i0:(0:Int) ≤ (i:Int):=by omega
   have i1:(i:Int) < (ps.length:Int):=by omega
   have YES:Hid (zcv ws ps i ps[i] = true → ∀ j (h:j < ps.length),j < i + 1 → zcv ws ps j ps[j] = true):=fun q j h a => by
    by_cases e:j = i
    ·subst e; exact q
    ·exact J.out.2 j h (by omega)
   have NO:=zaa (fun q => yahm (ws:=ws) hlt q)
   have EF:=zaa (@yaow ws ps i ps[i])
   have ET:=zaa (@yajw ws ps i ps[i])
   have DF:=zmt ps[i]
   have SZ:=zaa (HS.out i hlt)
   clear a0 a1 a2 J
   generalize ps[i] = x at *
   generalize zcv ws ps i x = eo at YES NO EF ET
   have B2:=zaa (J1.out.alloc hzr (.cells #[.int .i64 x.dir,.string x.name,.int .i64 x.child] 69))
   have BF:=zaa (zab BW.out B2.out hz)
   by_cases c1:x.child = -1
   ·have q1:(x.child == -1) = true:=by rw [c1]; rfl
    have EO:=zaa (EF.out c1)
    cases c2:x.freeB with
    | true =>
     rw [c2] at DF EO
     have E:=zaa (YES.out EO.out)
     clear c1 c2 EF ET YES NO EO
     go_wp2
     go_roundw
     case rel => exact ⟨i + 1,by omega,by go_num,B2.out,E.out⟩
     case measure => simp [intOf]; omega
    | false =>
     rw [c2] at DF EO
     have E:=zaa (NO.out EO.out)
     clear c1 c2 EF ET YES NO EO
     go_wp2
     go_ret
     exact ⟨zag E.out.symm,BF.out⟩
   have q1:(x.child == -1) = false:=by rw [beq_eq_false_iff_ne]; exact c1
   have EO:=zaa (ET.out c1)
   clear c1 EF ET DF
   by_cases c2:1 ≤ x.child ∧ x.child ≤ 15
   case neg =>
    have E:=zaa (NO.out (by rw [EO.out,decide_eq_false c2]; rfl))
    have C2:=zaa c2
    clear c2 YES NO EO
    go_wp2_with fail
    refine (zfs _ _ _ _ C2.out).mono ?_
    rintro e w' ⟨rfl,hw'⟩
    subst w'
    go_wp2
    go_ret
    exact ⟨zag E.out.symm,BF.out⟩
   by_cases c3:0 ≤ x.dir ∧ x.dir ≤ 15
   case neg =>
    have E:=zaa (NO.out (by rw [EO.out,decide_eq_false c3,Bool.false_and,Bool.and_false]))
    have C2:=zaa c2
    have C3:=zaa c3
    clear c2 c3 YES NO EO
    go_wp2_with fail
    refine (zbm _ _ _ _ C2.out).mono ?_
    rintro e w' ⟨rfl,hw'⟩
    subst w'
    go_wp2_with fail
    refine (zfs _ _ _ _ C3.out).mono ?_
    rintro e w' ⟨rfl,hw'⟩
    subst w'
    go_wp2
    go_ret
    exact ⟨zag E.out.symm,BF.out⟩
   cases c4:nmB x.name with
   | false =>
    have E:=zaa (NO.out (by rw [EO.out,c4,Bool.false_and,Bool.and_false,Bool.and_false]))
    have C2:=zaa c2
    have C3:=zaa c3
    have C4:=zaa c4
    clear c2 c3 c4 YES NO EO
    go_wp2_with fail
    refine (zbm _ _ _ _ C2.out).mono ?_
    rintro e w' ⟨rfl,hw'⟩
    subst w'
    go_wp2_with fail
    refine (zbm _ _ _ _ C3.out).mono ?_
    rintro e w' ⟨rfl,hw'⟩
    subst w'
    go_wp2_with fail
    refine (zeg _ _ SZ.out).mono ?_
    rw [C4.out]
    rintro e w' ⟨rfl,hw'⟩
    subst w'
    go_wp2
    go_ret
    exact ⟨zag E.out.symm,BF.out⟩
   | true =>
   have EO2:=zaa (show eo = (!(zai ws x.child == 0) && (zai ws x.dir == 2 && (ps.take i).all fun y => !zdt y x)) by rw [EO.out,decide_eq_true c2,decide_eq_true c3,c4]; rfl)
   have C4:=zaa c4
   clear c4 EO
   obtain ⟨xd,xs,xc⟩:=x
   simp only at d0 d1 d2 c2 c3 SZ B2 BF EO2 q1 C4
   obtain ⟨d,rfl⟩:∃ d:Nat,xd = (d:Int):=⟨xd.toNat,by omega⟩
   obtain ⟨c,rfl⟩:∃ c:Nat,xc = (c:Int):=⟨xc.toNat,by omega⟩
   have C2:=zaa c2
   have C3:=zaa c3
   have hd:d < ws.length:=by omega
   have hc:c < ws.length:=by omega
   have d5:(d:Int) < (ws.length:Int):=by omega
   have c5:(c:Int) < (ws.length:Int):=by omega
   have g0:=(BF.out.cell (p:=⟨bW,oW + d * 11,none⟩) hblW).trans (HW.out d hd).1
   have g1:=(BF.out.cell (p:=⟨bW,oW + c * 11,none⟩) hblW).trans (HW.out c hc).1
   rw [zbn hd,zbn hc] at EO2
   obtain ⟨y0,y1⟩:=CA.out _ B2.out
   clear c2 c3
   generalize ws[d].kind = kd at g0 EO2
   generalize ws[c].kind = kc at g1 EO2
   by_cases c6:kc = 0
   ·have q6:(kc == 0) = true:=by rw [c6]; rfl
    have E:=zaa (NO.out (by rw [EO2.out,q6]; rfl))
    clear c6 YES NO EO2
    go_wp2_with fail
    refine (zbm _ _ _ _ C2.out).mono ?_
    rintro e w' ⟨rfl,hw'⟩
    subst w'
    go_wp2_with fail
    refine (zbm _ _ _ _ C3.out).mono ?_
    rintro e w' ⟨rfl,hw'⟩
    subst w'
    go_wp2_with fail
    refine (zeg _ _ SZ.out).mono ?_
    rw [C4.out]
    rintro e w' ⟨rfl,hw'⟩
    subst w'
    go_wp2
    go_ret
    exact ⟨zag E.out.symm,BF.out⟩
   have q6:(kc == 0) = false:=by rw [beq_eq_false_iff_ne]; exact c6
   by_cases c7:kd = 2
   case neg =>
    have q7:(kd != 2) = true:=by rw [bne_iff_ne]; exact c7
    have E:=zaa (NO.out (by rw [EO2.out,show (kd == 2) = false by rw [beq_eq_false_iff_ne]; exact c7,Bool.false_and,Bool.and_false]))
    clear c6 c7 YES NO EO2
    go_wp2_with fail
    refine (zbm _ _ _ _ C2.out).mono ?_
    rintro e w' ⟨rfl,hw'⟩
    subst w'
    go_wp2_with fail
    refine (zbm _ _ _ _ C3.out).mono ?_
    rintro e w' ⟨rfl,hw'⟩
    subst w'
    go_wp2_with fail
    refine (zeg _ _ SZ.out).mono ?_
    rw [C4.out]
    rintro e w' ⟨rfl,hw'⟩
    subst w'
    go_wp2
    go_ret
    exact ⟨zag E.out.symm,BF.out⟩
   have q7:(kd != 2) = false:=by rw [c7]; rfl
   have EO3:=zaa (show eo = (ps.take i).all fun y => !zdt y ⟨(d:Int),xs,(c:Int)⟩ by rw [EO2.out,q6,c7]; rfl)
   have BX:Hid ((wr.alloc (.cells #[.int .i64 (d:Int),.string xs,.int .i64 (c:Int)] 69)).heap[wr.heap.size]? = some (.cells #[.int .i64 (d:Int),.string xs,.int .i64 (c:Int)] 69 (0,0))):=zah rfl
   clear c6 c7 EO2
   go_wp2_with fail
   refine (zbm _ _ _ _ C2.out).mono ?_
   rintro e w' ⟨rfl,hw'⟩
   subst w'
   go_wp2_with fail
   refine (zbm _ _ _ _ C3.out).mono ?_
   rintro e w' ⟨rfl,hw'⟩
   subst w'
   go_wp2_with fail
   refine (zeg _ _ SZ.out).mono ?_
   rw [C4.out]
   rintro e w' ⟨rfl,hw'⟩
   subst w'
   go_wp2
   generalize wr.alloc (.cells #[.int .i64 (d:Int),.string xs,.int .i64 (c:Int)] 69) = V at *
   have hzv:wr.heap.size < V.heap.size:=(Array.getElem?_eq_some_iff.1 BX.out).1
   clear g0 g1 d0 d1 d2 x0 x1 y0 y1 q6 q7
   go_loopw [5] (fun k wq => ∃ m:Nat,m ≤ i ∧ k = .int .i64 m ∧ Hid (Below V.heap.size V wq ∧ ∀ j (h:j < ps.length),j < m → zdt ps[j] ⟨(d:Int),xs,(c:Int)⟩ = false)) (fun k _ => i - (intOf k).toNat)
   case atStart => exact ⟨0,by omega,rfl,Below.refl _ _,fun j h a => absurd a (by omega)⟩
   case round =>
    obtain ⟨m,hm,rfl,K⟩:=hrel
    have KB:=zaa (zab B2.out K.out.1 B2.out.size)
    have KW:=zaa (zab BW.out KB.out hz)
    obtain ⟨x0,x1⟩:=CA.out wr KB.out
    have K1:=zaa K.out.1
    have hzk:V.heap.size ≤ wr.heap.size:=K.out.1.size
    by_cases hlk:m < i
    ·have hmp:m < ps.length:=by omega
     obtain ⟨a0,a1,a2⟩:=hcell m hmp
     have d0:=(KW.out.cell (p:=⟨b,o + m * 3,none⟩) hbl).trans a0
     have d1:=(KW.out.cell (p:=⟨b,o + m * 3 + 1,none⟩) hbl).trans a1
     have d2:=(KW.out.cell (p:=⟨b,o + m * 3 + 2,none⟩) hbl).trans a2
     have m0:(0:Int) ≤ (m:Int):=by omega
     have m1:(m:Int) < (i:Int):=by omega
     have m2:(m:Int) < (ps.length:Int):=by omega
     have K2:Hid (zdt ps[m] ⟨(d:Int),xs,(c:Int)⟩ = false → ∀ j (h:j < ps.length),j < m + 1 → zdt ps[j] ⟨(d:Int),xs,(c:Int)⟩ = false):=fun q j h a => by
      by_cases e:j = m
      ·subst e; exact q
      ·exact K.out.2 j h (by omega)
     have K3:Hid (zdt ps[m] ⟨(d:Int),xs,(c:Int)⟩ = true → zim ws ps = false):=fun q => NO.out (by rw [EO3.out,yasr hmp hlk q])
     have KC:=zaa (show zdt ps[m] ⟨(d:Int),xs,(c:Int)⟩ = (decide (0 ≤ ps[m].child) && (ps[m].dir == (d:Int) && ps[m].name.toList == xs.toList)) from rfl)
     clear a0 a1 a2 K
     generalize zdt ps[m] ⟨(d:Int),xs,(c:Int)⟩ = cb at K2 K3 KC
     generalize ps[m] = y at d0 d1 d2 KC
     have B3:=zaa (K1.out.alloc hzk (.cells #[.int .i64 y.dir,.string y.name,.int .i64 y.child] 69))
     have B4:=zaa (zab B2.out B3.out B2.out.size)
     have B5:=zaa (zab BW.out B4.out hz)
     obtain ⟨z0,z1,z2⟩:=zay ((B3.out.block _ hzv).trans BX.out)
     by_cases e1:0 ≤ y.child
     case neg =>
      have E:=zaa (K2.out (by rw [KC.out,decide_eq_false e1]; rfl))
      clear K2 K3 KC
      go_wp2
      go_roundw
      case rel => exact ⟨m + 1,by omega,by go_num,B3.out,E.out⟩
      case measure => simp [intOf]; omega
     cases e2:(y.dir == (d:Int)) with
     | false =>
      have E:=zaa (K2.out (by rw [KC.out,e2,Bool.false_and,Bool.and_false]))
      clear K2 K3 KC
      go_wp2
      go_roundw
      case rel => exact ⟨m + 1,by omega,by go_num,B3.out,E.out⟩
      case measure => simp [intOf]; omega
     | true =>
      cases e3:(y.name.toList == xs.toList) with
      | false =>
       have E:=zaa (K2.out (by rw [KC.out,e3,Bool.and_false,Bool.and_false]))
       clear K2 K3 KC
       go_wp2
       go_roundw
       case rel => exact ⟨m + 1,by omega,by go_num,B3.out,E.out⟩
       case measure => simp [intOf]; omega
      | true =>
       have E:=zaa (K3.out (by rw [KC.out,e2,e3,decide_eq_true e1]; rfl))
       clear K2 K3 KC
       go_wp2
       go_ret
       exact ⟨zag E.out.symm,B5.out⟩
    ·obtain rfl:m = i:=by omega
     have E:=zaa (YES.out (by rw [EO3.out]; exact yatr (fun k hk hki => K.out.2 k hk hki)))
     clear K
     go_wp2
     go_roundw
     case rel => exact ⟨m + 1,by omega,by go_num,KB.out,E.out⟩
     case measure => simp [intOf]; omega
  ·have E:=zaa (yaor (ws:=ws) (fun j h => J.out.2 j h (by omega)))
   clear J
   go_wp2
   go_ret
   exact ⟨zag E.out.symm,JW.out⟩
end Go.Proofs.YtkdjfhkalelafaaGreatDoor
