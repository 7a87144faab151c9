/- Several texts laid together: BlkRead, DtA, IgJ, IgK, IgL, IgM, Dev. -/
import Derived.Test.YtkdjfhkalelafaaGreatDoorZAR
import Derived.KernelRfl
import Derived.Test.YtkdjfhkalelafaaGreatDoorZAM
namespace Go.Proofs.YtkdjfhkalelafaaGreatDoor
open Go.RowKit
def askE (ws:List Int) (ps:List Se) (at_:Int):Int:=if zgk ws ps = false then 1 else if zpr at_ = false then 14 else 0
theorem yaac {ws:List Int} {ps:List Se} {at_:Int} (h:zgk ws ps = false):askE ws ps at_ = 1:=by unfold askE; rw [if_pos h]
theorem zqg {ws:List Int} {ps:List Se} {at_:Int} (h:zgk ws ps = true) (h2:zpr at_ = false):askE ws ps at_ = 14:=by unfold askE; rw [if_neg (by rw [h]; simp),if_pos h2]
theorem yahn {ws:List Int} {ps:List Se} {at_:Int} (h:zgk ws ps = true) (h2:zpr at_ = true):askE ws ps at_ = 0:=by unfold askE; rw [if_neg (by rw [h]; simp),if_neg (by rw [h2]; simp)]
set_option maxHeartbeats 1000000 in
theorem yaey (v:Value) (ws:List Int) (ps:List Se) (at_:Int) (w:World) (h:RdBlk w v ws ps) (hw:ws.length ≤ 1048576) (hp:ps.length ≤ 1048576) :
  Calls Tryz.prog 133 #[v,.int .i64 at_] w fun e w' => e = .returned (.int .i64 (askE ws ps at_)) ∧ Below w.heap.size w w':=by
 have HR:=zaa h
 obtain ⟨vW,vP,rfl,h1,h2⟩:=h
 obtain ⟨aW,cW,rfl,_⟩:=h1.shape
 obtain ⟨aP,cP,rfl,_⟩:=h2.shape
 clear h1 h2
 have hb0:Below w.heap.size w (w.alloc (.cells #[.slice aW ws.length cW,.slice aP ps.length cP] 29)):=(Below.refl _ _).alloc (Nat.le_refl _) _
 by_cases c1:zgk ws ps = true
 ·by_cases c2:zpr at_ = true
  ·rw [yahn c1 c2]
   go_enter Tryz.func133,Tryz.ntmps133
   go_wp2_with (first | (go_at_call 84; refine (zgx _ ws ps _ (HR.out.below hb0) hw hp).mono ?_; rintro e w1 ⟨rfl,hb1⟩) | (go_at_call 157; refine (zeq _ _).mono ?_; rintro e w2 ⟨rfl,rfl⟩))
   go_ret
   exact ⟨rfl,zab hb0 hb1 (by simp)⟩
  ·have c2':zpr at_ = false:=by simpa using c2
   rw [zqg c1 c2']
   clear c2
   go_enter Tryz.func133,Tryz.ntmps133
   go_wp2_with (first | (go_at_call 84; refine (zgx _ ws ps _ (HR.out.below hb0) hw hp).mono ?_; rintro e w1 ⟨rfl,hb1⟩) | (go_at_call 157; refine (zeq _ _).mono ?_; rintro e w2 ⟨rfl,rfl⟩))
   go_ret
   exact ⟨rfl,zab hb0 hb1 (by simp)⟩
 ·have c1':zgk ws ps = false:=by simpa using c1
  rw [yaac c1']
  clear c1
  go_enter Tryz.func133,Tryz.ntmps133
  go_wp2_with (first | (go_at_call 84; refine (zgx _ ws ps _ (HR.out.below hb0) hw hp).mono ?_; rintro e w1 ⟨rfl,hb1⟩) | (go_at_call 157; refine (zeq _ _).mono ?_; rintro e w2 ⟨rfl,rfl⟩))
  go_ret
  exact ⟨rfl,zab hb0 hb1 (by simp)⟩
def zkt (at_ d:Int) (ps:List Se):Int:=ps.foldl (fun acc p => if p.at_ = at_ then p.val else acc) d
theorem zlg {at_ d:Int}:∀ {ps:List Se},(∀ p ∈ ps,¬ p.at_ = at_) → zkt at_ d ps = d
 | [],_ => rfl
 | p :: ps,h => by
  show zkt at_ (if p.at_ = at_ then p.val else d) ps = d
  rw [if_neg (h p (by simp))]
  exact zlg (fun q hq => h q (by simp [hq]))
theorem zvt (at_ d:Int) (ps qs:List Se):zkt at_ d (ps ++ qs) = zkt at_ (zkt at_ d ps) qs:=by simp [zkt]
theorem yaex {at_ d:Int} {ps:List Se} {k:Nat} (hk:k < ps.length) (h:ps[k].at_ = at_) (ha:∀ j (hj:j < ps.length),k < j → ¬ ps[j].at_ = at_):zkt at_ d ps = ps[k].val:=by
 have e:ps = ps.take k ++ (ps[k] :: ps.drop (k + 1)):=by rw [← List.drop_eq_getElem_cons hk,List.take_append_drop]
 conv => lhs; rw [e]
 rw [zvt]
 show zkt at_ (if ps[k].at_ = at_ then ps[k].val else _) (ps.drop (k + 1)) = _
 rw [if_pos h]
 apply zlg
 intro p hp
 obtain ⟨i,hi,rfl⟩:=List.getElem_of_mem hp
 rw [List.getElem_drop]
 exact ha _ _ (by omega)
set_option maxHeartbeats 2000000 in
theorem zyy (v:Value) (ws:List Int) (ps:List Se) (at_:Nat) (w:World) (h:RdBlk w v ws ps) (hw:ws.length ≤ 1048576) (hp:ps.length ≤ 1048576) (ha:at_ < ws.length) :
  Calls Tryz.prog 164 #[v,.int .i64 (at_:Int)] w fun e w' => e = .returned (.int .i64 (zkt (at_:Int) ws[at_] ps)) ∧ Below w.heap.size w w':=by
 obtain ⟨vW,vP,rfl,h1,h2⟩:=h
 obtain ⟨aW,cW,rfl,_,hcW⟩:=h1.shape
 obtain ⟨aP,cP,rfl,_,hcP⟩:=h2.shape
 clear h1 h2
 obtain ⟨bW,oW,rfl,hbW,hcellW⟩:=hcW (by omega)
 have hb0:Below w.heap.size w (w.alloc (.cells #[.slice (some ⟨bW,oW,none⟩) ws.length cW,.slice aP ps.length cP] 29)):=(Below.refl _ _).alloc (Nat.le_refl _) _
 have hcw:=(hb0.cell (p:=⟨bW,oW + at_,none⟩) hbW).trans (hcellW at_ ha)
 clear hcW hcellW
 go_enter Tryz.func164,Tryz.ntmps164
 go_wp2
 go_loop [5] (fun i => ∃ k:Nat,k ≤ ps.length ∧ i = .int .i64 ((k:Int) - 1) ∧ Hid (∀ j (h:j < ps.length),k ≤ j → ¬ ps[j].at_ = (at_:Int))) (fun i => (intOf i + 1).toNat)
 case atStart => exact ⟨ps.length,Nat.le_refl _,rfl,fun j h a => absurd h (by omega)⟩
 case round =>
  obtain ⟨k,hk,rfl,H⟩:=hrel
  cases k with
  | zero =>
   have E:=zaa (zlg (d:=ws[at_]) (fun p hp => by obtain ⟨i,hi,rfl⟩:=List.getElem_of_mem hp; exact H.out i hi (by omega)))
   clear H hcP
   go_wp2
   go_ret
   exact ⟨zct E.out.symm,hb0⟩
  | succ m =>
   have em:(((m + 1:Nat):Int) - 1) = (m:Int):=by omega
   rw [em]
   clear em
   obtain ⟨b,o,rfl,hbl,hcell⟩:=hcP (by omega)
   obtain ⟨d0,d1⟩:=hcell m (by omega)
   have e0:=(hb0.cell (p:=⟨b,o + m * 2,none⟩) hbl).trans d0
   have e1:=(hb0.cell (p:=⟨b,o + m * 2 + 1,none⟩) hbl).trans d1
   clear d0 d1 hcell hcP
   have hm:m < ps.length:=by omega
   by_cases c:ps[m].at_ = (at_:Int)
   ·have c':(ps[m].at_ == (at_:Int)) = true:=by simpa using c
    have E:=zaa (yaex (d:=ws[at_]) hm c (fun j hj hlt => H.out j hj (by omega)))
    clear H c
    go_wp2
    go_ret
    exact ⟨zct E.out.symm,hb0⟩
   ·have c':(ps[m].at_ == (at_:Int)) = false:=by simpa using c
    have C:=zaa c
    clear c
    go_wp2
    go_round
    case rel =>
     refine ⟨m,by omega,by go_num,fun j hj hle => ?_⟩
     by_cases e:j = m
     ·subst e; exact C.out
     ·exact H.out j hj (by omega)
    case measure => simp [intOf] <;> omega
def yapn (ws:List Int) (ps:List Se) (at_:Int):Int:=if askE ws ps at_ = 0 then zkt at_ (ws[at_.toNat]?.getD 0) ps else 0
theorem yavw {ws:List Int} {ps:List Se} {at_:Int} (h:¬ askE ws ps at_ = 0):yapn ws ps at_ = 0:=by unfold yapn; rw [if_neg h]
theorem yawh {ws:List Int} {ps:List Se} {k:Nat} (h:askE ws ps (k:Int) = 0) (hk:k < ws.length):yapn ws ps (k:Int) = zkt (k:Int) ws[k] ps:=by
 unfold yapn; rw [if_pos h]; simp [hk]
theorem yatd (ws:List Int) (ps:List Se) (at_:Int):(askE ws ps at_ = 1 ∨ askE ws ps at_ = 14) ∨ (askE ws ps at_ = 0 ∧ zgk ws ps = true ∧ ∃ k:Nat,at_ = (k:Int) ∧ k < 32 ∧ k < ws.length):=by
 by_cases c1:zgk ws ps = true
 ·by_cases c2:zpr at_ = true
  ·have:=zvl c2
   have hl:=(zej c1).1
   exact .inr ⟨yahn c1 c2,c1,at_.toNat,by omega,by omega,by omega⟩
  ·exact .inl (.inr (zqg c1 (by simpa using c2)))
 ·exact .inl (.inl (yaac (by simpa using c1)))
def pgV (ws:List Int) (ps:List St) (es:List Int) (qs:List Se) (e:Int):Int:=if e % 4 = 1 then ldW ws ps (312 + e / 4).toNat else if e % 4 = 2 then zkt (e / 4) (es[(e / 4).toNat]?.getD 0) qs else 0
def flI (ns:List Ino) (ds:List Den) (s:ByteArray):Int × Int:=if (lkI ns ds s).2 = 0 then (if zai ns (lkI ns ds s).1 = 1 then ((lkI ns ds s).1,0) else (0,9)) else (0,(lkI ns ds s).2)
def zdp (ns:List Ino) (z:Int):Int:=(zan ns z.toNat).size
def zny (ns:List Ino) (z:Int) (p:Int):Int:=(zan ns z.toNat).map.getD p.toNat 0
def rpF (ws:List Int) (ps:List St) (es:List Int) (qs:List Se) (ns:List Ino) (i page:Int):Int × Int:=if 0 ≤ page ∧ page < zdp ns i then (pgV ws ps es qs (zny ns i page),0) else (0,4)
def rpI (ws:List Int) (ps:List St) (es:List Int) (qs:List Se) (ns:List Ino) (ds:List Den) (s:ByteArray) (page:Int):Int × Int:=if (flI ns ds s).2 = 0 then rpF ws ps es qs ns (flI ns ds s).1 page else (0,(flI ns ds s).2)
def dvB (ws:List Int) (ps:List St) (es:List Int) (qs:List Se):Bool:=(pmB ws ps && zgk es qs) && riB (zcg ws ps)
def fpI (ns:List Ino):Int:=zby (fun i => !zhv (zbp (zap ns) 1) (i:Int)) 24
def fsI (ns:List Ino):Int:=zby (fun i => !zhv (zbp (zap ns) 2) (i:Int)) 32
def wrS (ns:List Ino) (x:Int):List Mi:=if 0 ≤ fpI ns then ⟨1,312 + fpI ns,x⟩ :: zbl [312 + fpI ns] else [⟨4,fsI ns,x⟩,⟨5,0,0⟩]
def wrE (ns:List Ino):Int:=if 0 ≤ fpI ns then 4 * fpI ns + 1 else 4 * fsI ns + 2
def wrU (i page size e:Int):List Se:=⟨48 + 12 * i + (3 + page),e⟩ :: (if size ≤ page then [⟨48 + 12 * i + 1,page + 1⟩] else [])
def wrF (ns:List Ino) (i page x:Int):List Mi × Int:=if (0 ≤ page ∧ page < 8) ∧ zbd x = true then (if fpI ns < 0 ∧ fsI ns < 0 then ([],7) else (wrS ns x ++ zdr (zdx (wrU i page (zdp ns i) (wrE ns))),0)) else ([],4)
def wrI (ns:List Ino) (ds:List Den) (s:ByteArray) (page x:Int):List Mi × Int:=if (flI ns ds s).2 = 0 then wrF ns (flI ns ds s).1 page x else ([],(flI ns ds s).2)
def cuT (zs:List Int) (i:Int) (n k:Nat):List Se:=((List.range k).filter fun j => decide (n ≤ j) && !(zs.getD j 0 == 0)).map fun (j:Nat) => ⟨48 + 12 * i + (3 + (j:Int)),0⟩
def cuU (zs:List Int) (i:Int) (n k:Nat):List Se:=⟨48 + 12 * i + 1,(n:Int)⟩ :: cuT zs i n k
def cuF (ns:List Ino) (i size:Int):List Se × Int:=if 0 ≤ size ∧ size ≤ 8 then (cuU (zan ns i.toNat).map i size.toNat 8,0) else ([],4)
def cuI (ns:List Ino) (ds:List Den) (s:ByteArray) (size:Int):List Se × Int:=if (flI ns ds s).2 = 0 then cuF ns (flI ns ds s).1 size else ([],(flI ns ds s).2)
def cuR (ns:List Ino) (ds:List Den) (s:ByteArray) (size:Int):List Se × Int:=if 65536 < s.size then ([],2) else if zcb ns ds = true then cuI ns ds s size else ([],1)
def pgL (ws:List Int) (ps:List St) (es:List Int) (qs:List Se) (x:Ino) (k:Nat):List Int:=(List.range k).map fun j => pgV ws ps es qs (x.map.getD j 0)
def psI (ws:List Int) (ps:List St) (es:List Int) (qs:List Se) (ns:List Ino) (ds:List Den) (s:ByteArray):List Int × Int:=if (flI ns ds s).2 = 0 then (pgL ws ps es qs (zan ns (flI ns ds s).1.toNat) (zdp ns (flI ns ds s).1).toNat,0) else ([],(flI ns ds s).2)
def psR (ws:List Int) (ps:List St) (es:List Int) (qs:List Se) (s:ByteArray):List Int × Int:=if 65536 < s.size then ([],2) else if dvB ws ps es qs = true then psI ws ps es qs (zbe (zcg ws ps) 16) (zbi (zcg ws ps) 24) s else ([],1)
theorem yatc {zs:List Int} {i:Int} {n k:Nat} (h:n ≤ k) (e:¬ zs.getD k 0 = 0):cuT zs i n (k + 1) = cuT zs i n k ++ [⟨48 + 12 * i + (3 + (k:Int)),0⟩]:=by
 unfold cuT
 rw [List.range_succ,List.filter_append,List.map_append]
 congr 1
 rw [List.filter_cons_of_pos (by rw [decide_eq_true h]; simpa using e)]
 rfl
theorem yauv {zs:List Int} {i:Int} {n k:Nat} (e:zs.getD k 0 = 0):cuT zs i n (k + 1) = cuT zs i n k:=by
 unfold cuT
 rw [List.range_succ,List.filter_append,List.map_append,List.filter_cons_of_neg (by rw [e]; simp)]
 simp
theorem yafh (zs:List Int) (i:Int) (n:Nat):cuT zs i n n = []:=by
 unfold cuT
 rw [List.filter_eq_nil_iff.2 (fun j hj => by have:=List.mem_range.1 hj; simp; omega)]
 rfl
theorem zye (zs:List Int) (i:Int) (n k:Nat):(cuT zs i n k).length ≤ k:=by
 unfold cuT
 rw [List.length_map]
 refine Nat.le_trans (List.length_filter_le _ _) ?_
 rw [List.length_range]
 exact Nat.le_refl _
theorem yatp {zs:List Int} {i n k:Nat} (hi:i < 16) (hk:k ≤ 8):UpIn (cuT zs (i:Int) n k):=fun u hu => by
 unfold cuT at hu
 obtain ⟨j,hm,rfl⟩:=List.mem_map.1 hu
 have:=List.mem_range.1 (List.mem_filter.1 hm).1
 exact ⟨by show 48 ≤ 48 + 12 * (i:Int) + (3 + (j:Int)); omega,by show 48 + 12 * (i:Int) + (3 + (j:Int)) < 312; omega⟩
theorem yawi (ws:List Int) (ps:List St) (es:List Int) (qs:List Se) (x:Ino) (k:Nat):pgL ws ps es qs x (k + 1) = pgL ws ps es qs x k ++ [pgV ws ps es qs (x.map.getD k 0)]:=by
 unfold pgL
 rw [List.range_succ,List.map_append]
 rfl
theorem zgu {ns:List Ino} {ds:List Den} {s:ByteArray} (I:Img ns ds) (h:(flI ns ds s).2 = 0):∃ i:Nat,i < 16 ∧ (flI ns ds s).1 = (i:Int) ∧ (zan ns i).kind = 1:=by
 unfold flI at h ⊢
 by_cases c:(lkI ns ds s).2 = 0
 ·rw [if_pos c] at h ⊢
  by_cases d:zai ns (lkI ns ds s).1 = 1
  ·rw [if_pos d]
   obtain ⟨i,e,hi,_,k⟩:=zmj I c (by rw [d]; omega)
   exact ⟨i,hi,e,k⟩
  ·rw [if_neg d] at h
   simp at h
 ·rw [if_neg c] at h
  exact absurd h c
theorem zsa {fs:List (Nat × Int)} {g:Nat}:∀ {z:Int},(∀ f ∈ fs,¬ f.1 = g) → zog fs g z = z:=by
 induction fs with
 | nil => intro z _; rfl
 | cons f fs ih =>
  intro z h
  show zog fs g (if f.1 = g then f.2 else z) = z
  rw [if_neg (h f (List.mem_cons_self ..))]
  exact ih (fun q hq => h q (List.mem_cons_of_mem _ hq))
theorem yaly {fs:List (Nat × Int)} {g:Nat} (h0:∀ f ∈ fs,f.2 = 0):∀ {z:Int},(z = 0 ∨ ∃ f ∈ fs,f.1 = g) → zog fs g z = 0:=by
 induction fs with
 | nil => intro z h; rcases h with h | ⟨_,h,_⟩; exact h; cases h
 | cons f fs ih =>
  intro z h
  show zog fs g (if f.1 = g then f.2 else z) = 0
  refine ih (fun q hq => h0 q (List.mem_cons_of_mem _ hq)) ?_
  by_cases e:f.1 = g
  ·rw [if_pos e]; exact .inl (h0 f (List.mem_cons_self ..))
  ·rw [if_neg e]
   rcases h with h | ⟨q,hq,hg⟩
   ·exact .inl h
   ·rcases List.mem_cons.1 hq with rfl | hq
    ·exact absurd hg e
    ·exact .inr ⟨q,hq,hg⟩
def cuFs (zs:List Int) (n:Nat):List (Nat × Int):=((List.range 8).filter fun j => decide (n ≤ j) && !(zs.getD j 0 == 0)).map fun (j:Nat) => (3 + j,0)
theorem yaam (zs:List Int) (i n:Nat):znt i ((1,(n:Int)) :: cuFs zs n) = cuU zs (i:Int) n 8:=by
 unfold znt cuU cuT cuFs
 rw [List.map_cons,List.map_map]
 rfl
theorem zjs {zs:List Int} {n:Nat} {f:Nat × Int} (h:f ∈ cuFs zs n):∃ j,j < 8 ∧ n ≤ j ∧ f = (3 + j,0):=by
 unfold cuFs at h
 obtain ⟨j,hm,rfl⟩:=List.mem_map.1 h
 obtain ⟨a,b⟩:=List.mem_filter.1 hm
 rw [Bool.and_eq_true,decide_eq_true_eq] at b
 exact ⟨j,List.mem_range.1 a,b.1,rfl⟩
theorem yajg {zs:List Int} {n j:Nat} (hj:j < 8):zog ((1,(n:Int)) :: cuFs zs n) (3 + j) (zs.getD j 0) = (cutM zs n).getD j 0:=by
 show zog (cuFs zs n) (3 + j) (if 1 = 3 + j then (n:Int) else zs.getD j 0) = _
 rw [if_neg (by omega),yagl _ _ _ hj]
 by_cases c:j < n
 ·rw [if_pos c]
  exact zsa (fun f hf => by obtain ⟨q,_,hq,rfl⟩:=zjs hf; show ¬ 3 + q = 3 + j; omega)
 ·rw [if_neg c]
  refine yaly (fun f hf => by obtain ⟨q,_,_,rfl⟩:=zjs hf; rfl) ?_
  by_cases e:zs.getD j 0 = 0
  ·exact .inl e
  ·refine .inr ⟨(3 + j,0),?_,rfl⟩
   unfold cuFs
   exact List.mem_map.2 ⟨j,List.mem_filter.2 ⟨List.mem_range.2 hj,by rw [decide_eq_true (by omega:n ≤ j)]; simpa using e⟩,rfl⟩
theorem yabv (x:Ino) (n:Nat):zwe x ((1,(n:Int)) :: cuFs x.map n) = inoM x.kind (n:Int) x.links (cutM x.map n):=by
 have N:∀ g,g < 3 → ¬ g = 1 → ∀ z,zog ((1,(n:Int)) :: cuFs x.map n) g z = z:=fun g hg h1 z => zsa (fun f hf => by
  rcases List.mem_cons.1 hf with rfl | hf
  ·show ¬ 1 = g; omega
  ·obtain ⟨q,_,_,rfl⟩:=zjs hf; show ¬ 3 + q = g; omega)
 have P:=fun j hj => yajg (zs:=x.map) (n:=n) (j:=j) hj
 unfold zwe inoM
 congr 1
 ·exact N 0 (by omega) (by omega) _
 ·show zog (cuFs x.map n) 1 (n:Int) = (n:Int)
  exact zsa (fun f hf => by obtain ⟨q,_,_,rfl⟩:=zjs hf; show ¬ 3 + q = 1; omega)
 ·exact N 2 (by omega) (by omega) _
 ·exact P 0 (by omega)
 ·exact P 1 (by omega)
 ·exact P 2 (by omega)
 ·exact P 3 (by omega)
 ·exact P 4 (by omega)
 ·exact P 5 (by omega)
 ·exact P 6 (by omega)
 ·exact P 7 (by omega)
theorem yavq {ls:List Int} {ns:List Ino} {ds:List Den} (h:Wi ls ns ds) {s:ByteArray} {size:Int} {us:List Se} (e:cuI ns ds s size = (us,0)) :
  UpIn us ∧ us.length ≤ 9 ∧ ∃ i n:Nat,i < 16 ∧ n ≤ 8 ∧ (flI ns ds s).1 = (i:Int) ∧ size = (n:Int) ∧ Wi (zbk ls us) (ns.set i (inoM (zan ns i).kind (n:Int) (zan ns i).links (cutM (zan ns i).map n))) ds:=by
 unfold cuI at e
 by_cases c:(flI ns ds s).2 = 0
 ·rw [if_pos c] at e
  obtain ⟨i,hi,ei,k⟩:=zgu h.img c
  rw [ei] at e
  unfold cuF at e
  by_cases d:0 ≤ size ∧ size ≤ 8
  ·rw [if_pos d] at e
   obtain ⟨n,rfl⟩:∃ n:Nat,size = (n:Int):=⟨size.toNat,by omega⟩
   rw [Int.toNat_natCast,Int.toNat_natCast] at e
   obtain ⟨rfl,-⟩:=Prod.mk.inj e
   rw [← yaam]
   have hf:∀ f ∈ (1,(n:Int)) :: cuFs (zan ns i).map n,f.1 < 11:=fun f hf => by
    rcases List.mem_cons.1 hf with rfl | hf
    ·show 1 < 11; omega
    ·obtain ⟨q,hq,_,rfl⟩:=zjs hf; show 3 + q < 11; omega
   refine ⟨zsg hi hf,?_,i,n,hi,by omega,ei,rfl,?_⟩
   ·rw [yaam]
    have:=zye (zan ns i).map (i:Int) n 8
    show (cuT (zan ns i).map (i:Int) n 8).length + 1 ≤ 9
    omega
   ·rw [← yabv]
    exact yaps h hi hf (by rw [yabv]; exact yase h.img hi k (by omega))
  ·rw [if_neg d] at e
   simp at e
 ·rw [if_neg c] at e
  exact absurd (Prod.mk.inj e).2 c
def wrFs (p:Nat) (e size:Int):List (Nat × Int):=(3 + p,e) :: (if size ≤ (p:Int) then [(1,(p:Int) + 1)] else [])
theorem yalq (i p:Nat) (e size:Int):znt i (wrFs p e size) = wrU (i:Int) (p:Int) size e:=by
 unfold znt wrU wrFs
 rw [List.map_cons]
 by_cases c:size ≤ (p:Int)
 ·rw [if_pos c,if_pos c]
  show [(⟨48 + 12 * (i:Int) + ((3 + p:Nat):Int),e⟩:Se),⟨48 + 12 * (i:Int) + 1,(p:Int) + 1⟩] = _
  rw [show 48 + 12 * (i:Int) + ((3 + p:Nat):Int) = 48 + 12 * (i:Int) + (3 + (p:Int)) by omega]
 ·rw [if_neg c,if_neg c]
  show [(⟨48 + 12 * (i:Int) + ((3 + p:Nat):Int),e⟩:Se)] = _
  rw [show 48 + 12 * (i:Int) + ((3 + p:Nat):Int) = 48 + 12 * (i:Int) + (3 + (p:Int)) by omega]
theorem yagp {p:Nat} {e size:Int} (hp:p < 8):∀ f ∈ wrFs p e size,f.1 < 11:=fun f hf => by
 unfold wrFs at hf
 rcases List.mem_cons.1 hf with rfl | hf
 ·show 3 + p < 11; omega
 ·by_cases c:size ≤ (p:Int)
  ·rw [if_pos c,List.mem_singleton] at hf; rw [hf]; show 1 < 11; omega
  ·rw [if_neg c] at hf; cases hf
theorem zzr (x:Ino) {p:Nat} (hp:p < 8) (e:Int):zwe x (wrFs p e x.size) = inoM x.kind (if (p:Int) < x.size then x.size else (p:Int) + 1) x.links (x.map.set p e):=by
 have G:∀ g z,zog (wrFs p e x.size) g z = if g = 1 ∧ x.size ≤ (p:Int) then (p:Int) + 1 else if g = 3 + p then e else z:=by
  intro g z
  unfold wrFs
  by_cases c:x.size ≤ (p:Int)
  ·rw [if_pos c]
   show (if 1 = g then (p:Int) + 1 else (if 3 + p = g then e else z)) = _
   repeat' split
   all_goals omega
  ·rw [if_neg c]
   show (if 3 + p = g then e else z) = _
   repeat' split
   all_goals omega
 have M:∀ j,j < 8 → zog (wrFs p e x.size) (3 + j) (x.map.getD j 0) = (x.map.set p e).getD j 0:=by
  intro j hj
  rw [G,if_neg (fun q => by omega),List.getD_eq_getElem?_getD,List.getD_eq_getElem?_getD,List.getElem?_set]
  by_cases b:j = p
  ·subst b
   rw [if_pos rfl,if_pos rfl,if_pos (by show j < 8; exact hj)]
   rfl
  ·rw [if_neg (by omega),if_neg (fun q => b q.symm)]
 unfold zwe inoM
 congr 1
 ·rw [G,if_neg (fun q => by omega),if_neg (by omega)]
 ·rw [G]
  by_cases c:(p:Int) < x.size
  ·rw [if_neg (fun q => by omega),if_neg (by omega),if_pos c]
  ·rw [if_pos ⟨rfl,by omega⟩,if_neg c]
 ·rw [G,if_neg (fun q => by omega),if_neg (by omega)]
 ·exact M 0 (by omega)
 ·exact M 1 (by omega)
 ·exact M 2 (by omega)
 ·exact M 3 (by omega)
 ·exact M 4 (by omega)
 ·exact M 5 (by omega)
 ·exact M 6 (by omega)
 ·exact M 7 (by omega)
theorem ztf {ls:List Int} {ns:List Ino} {ds:List Den} (h:Wi ls ns ds) {i p:Nat} {e:Int} (hi:i < 16) (k:(zan ns i).kind = 1) (hp:p < 8) (te:zet e = true) (he:¬ e = 0) (new:¬ e ∈ zap ns) :
  UpIn (wrU (i:Int) (p:Int) (zan ns i).size e) ∧ Wi (zbk ls (wrU (i:Int) (p:Int) (zan ns i).size e)) (ns.set i (inoM (zan ns i).kind (if (p:Int) < (zan ns i).size then (zan ns i).size else (p:Int) + 1) (zan ns i).links ((zan ns i).map.set p e))) ds:=by
 rw [← yalq,← zzr _ hp]
 exact ⟨zsg hi (yagp hp),yaps h hi (yagp hp) (by rw [zzr _ hp]; exact yafj h.img hi k hp te he new rfl)⟩
theorem yarb {ls:List Int} {ns:List Ino} {ds:List Den} (h:Wi ls ns ds) {i p:Nat} {e:Int} (hi:i < 16) (hp:p < 8) (was:¬ (zan ns i).map.getD p 0 = 0) (te:zet e = true) (he:¬ e = 0) (new:¬ e ∈ zap ns) :
  Wi (zbk ls [⟨48 + 12 * (i:Int) + (3 + (p:Int)),e⟩]) (ns.set i (inoM (zan ns i).kind (zan ns i).size (zan ns i).links ((zan ns i).map.set p e))) ds:=by
 obtain ⟨sz,k⟩:=yaig (h.img.ok i hi) hp was
 have q:=(ztf h hi k hp te he new).2
 unfold wrU at q
 rw [if_neg (by omega),if_pos sz] at q
 exact q
theorem zdb {p:Nat → Bool} {n:Nat} (h:0 ≤ zby p n):∃ k:Nat,k < n ∧ zby p n = (k:Int) ∧ p k = true:=by
 unfold zby at h ⊢
 cases e:(List.range n).find? p with
 | none => rw [e] at h; exact absurd h (by show ¬ (0:Int) ≤ -1; omega)
 | some k => exact ⟨k,List.mem_range.1 (List.mem_of_find?_eq_some e),rfl,List.find?_some e⟩
theorem yaaa {ns:List Ino} {t:Int} {k:Nat} (ht:0 ≤ t ∧ t < 4) (h:(!zhv (zbp (zap ns) t) (k:Int)) = true):¬ 4 * (k:Int) + t ∈ zap ns:=by
 intro m
 unfold zhv zbp at h
 rw [Bool.not_eq_true',← Bool.not_eq_true] at h
 refine h (List.contains_iff_mem.2 (List.mem_map.2 ⟨4 * (k:Int) + t,List.mem_filter.2 ⟨m,?_⟩,by omega⟩))
 rw [beq_iff_eq]
 omega
theorem yaih {ns:List Ino} (h:¬ (fpI ns < 0 ∧ fsI ns < 0)):zet (wrE ns) = true ∧ ¬ wrE ns = 0 ∧ ¬ wrE ns ∈ zap ns:=by
 unfold wrE
 by_cases c:0 ≤ fpI ns
 ·rw [if_pos c]
  obtain ⟨k,hk,e,q⟩:=zdb c
  have e':fpI ns = (k:Int):=e
  rw [e']
  refine ⟨?_,by omega,yaaa (by omega) q⟩
  unfold zet zhh
  simp
  omega
 ·rw [if_neg c]
  obtain ⟨k,hk,e,q⟩:=zdb (p:=fun i => !zhv (zbp (zap ns) 2) (i:Int)) (n:=32) (by have:¬ fsI ns < 0:=fun z => h ⟨by omega,z⟩; unfold fsI at this; omega)
  have e':fsI ns = (k:Int):=e
  rw [e']
  refine ⟨?_,by omega,yaaa (by omega) q⟩
  unfold zet zhh
  simp
  omega
def zob:List Int:=(((List.replicate 336 (0:Int)).set 0 7).set 48 2).set 50 1
theorem yafn:zob.length = 336:=by kernel_rfl
theorem yady:zbe zob 16 = ⟨2,0,1,0,0,0,0,0,0,0,0⟩ :: List.replicate 15 zhu:=by kernel_rfl
theorem yada:zcm zob 24 = true:=by kernel_rfl
theorem yabz:zbi zob 24 = List.replicate 24 freeD:=by kernel_rfl
theorem yahg:zcb (⟨2,0,1,0,0,0,0,0,0,0,0⟩ :: List.replicate 15 zhu) (List.replicate 24 freeD) = true:=by kernel_rfl
theorem yamk:Wi zob (⟨2,0,1,0,0,0,0,0,0,0,0⟩ :: List.replicate 15 zhu) (List.replicate 24 freeD) :=
 ⟨yafn,by kernel_rfl,yada,yady,yabz,zbz.1 yahg⟩
def wrW (ls:List Int) (ns:List Ino) (x:Int):List Int:=if 0 ≤ fpI ns then ls.set (312 + fpI ns).toNat x else ls
theorem yarf (ls:List Int) (ns:List Ino) (x:Int):zno (ls,[]) (wrS ns x) = (wrW ls ns x,[]):=by
 unfold wrS wrW
 by_cases c:0 ≤ fpI ns
 ·rw [if_pos c,if_pos c]
  exact zjm [up (312 + fpI ns) x] ls
 ·rw [if_neg c,if_neg c]
  rfl
theorem yary (ls:List Int) (ns:List Ino) (x:Int):(wrW ls ns x).length = ls.length:=by
 unfold wrW
 split
 ·rw [List.length_set]
 ·rfl
theorem yapr {ls:List Int} {ns:List Ino} {x:Int} (hl:ls.length = 336) {z:Int} (hz:0 ≤ z ∧ z < 312):wdI (wrW ls ns x) z = wdI ls z:=by
 unfold wrW
 by_cases c:0 ≤ fpI ns
 ·rw [if_pos c]
  obtain ⟨k,hk,e,-⟩:=zdb c
  have e':fpI ns = (k:Int):=e
  rw [zee (by omega) (by rw [e']; omega) (by omega),if_neg (by omega)]
 ·rw [if_neg c]
theorem yamv {ls:List Int} {ns:List Ino} {ds:List Den} (h:Wi ls ns ds) (c0:wdI ls 8 = 0) {s:ByteArray} {page x:Int} {l:List Mi} (e:wrI ns ds s page x = (l,0)) :
  ∃ i p:Nat,∃ ls',i < 16 ∧ p < 8 ∧ (flI ns ds s).1 = (i:Int) ∧ page = (p:Int) ∧ zno (ls,[]) l = (ls',[]) ∧ wdI ls' 8 = 0 ∧ Wi ls' (ns.set i (inoM (zan ns i).kind (if (p:Int) < (zan ns i).size then (zan ns i).size else (p:Int) + 1) (zan ns i).links ((zan ns i).map.set p (wrE ns)))) ds:=by
 unfold wrI at e
 by_cases c:(flI ns ds s).2 = 0
 ·rw [if_pos c] at e
  obtain ⟨i,hi,ei,k⟩:=zgu h.img c
  rw [ei] at e
  unfold wrF at e
  by_cases d:(0 ≤ page ∧ page < 8) ∧ zbd x = true
  ·rw [if_pos d] at e
   by_cases f:fpI ns < 0 ∧ fsI ns < 0
   ·rw [if_pos f] at e
    simp at e
   ·rw [if_neg f] at e
    obtain ⟨p,rfl⟩:∃ p:Nat,page = (p:Int):=⟨page.toNat,by omega⟩
    have hp:p < 8:=by omega
    obtain ⟨te,he,new⟩:=yaih f
    have l1:(wrW ls ns x).length = 336:=by rw [yary]; exact h.len
    have h1:Wi (wrW ls ns x) ns ds:=zsn h l1 (fun z hz => yapr h.len (by omega))
    have q:=ztf h1 hi k hp te he new
    have c1:wdI (wrW ls ns x) 8 = 0:=by rw [yapr h.len (by omega)]; exact c0
    have sz:zdp ns (i:Int) = (zan ns i).size:=by unfold zdp; rw [Int.toNat_natCast]
    rw [sz] at e
    obtain ⟨rfl,-⟩:=Prod.mk.inj e
    refine ⟨i,p,zov (wrW ls ns x) (wrU (i:Int) (p:Int) (zan ns i).size (wrE ns)),hi,hp,ei,rfl,?_,znv l1 c1,yaix l1 ?_ q.1 q.2⟩
    ·rw [zdj,yarf,zvk]
    ·unfold wrU
     split <;> simp
  ·rw [if_neg d] at e
   simp at e
 ·rw [if_neg c] at e
  exact absurd (Prod.mk.inj e).2 c
theorem zso {i:Nat} (hi:i < 16) {f:Int} (hf:0 ≤ f ∧ f < 11) (x:Int):UpIn [⟨48 + 12 * (i:Int) + f,x⟩]:=fun u hu => by
 rw [List.mem_singleton.1 hu]
 exact ⟨by show 48 ≤ 48 + 12 * (i:Int) + f; omega,by show 48 + 12 * (i:Int) + f < 312; omega⟩
theorem yapm {ws:List Ino} {ps:List Den} {s:ByteArray} {kind:Int} {us:List Se} (h:Img ws ps) (e:mkI ws ps s kind = (us,0)):UpIn us ∧ us.length ≤ 16:=by
 unfold mkI at e
 by_cases c:(paI ws ps s).2.2 = 0
 ·rw [if_pos c] at e
  unfold mkN at e
  split at e
  ·simp at e
  ·split at e
   ·simp at e
   ·rename_i f1
    split at e
    ·simp at e
    ·rename_i f2
     obtain ⟨rfl,-⟩:=Prod.mk.inj e
     obtain ⟨i,ei,hi,-⟩:=zww h f1
     obtain ⟨k,ek,hk,-⟩:=zrs h f2
     rw [ei,ek]
     unfold mkU
     refine ⟨UpIn.app (fun u hu => ?_) (zoe hk _),by simp [enL]⟩
     rcases List.mem_cons.1 hu with rfl | hu
     ·exact ⟨by show 48 ≤ 48 + 12 * (i:Int); omega,by show 48 + 12 * (i:Int) < 312; omega⟩
     ·exact zso hi (by omega) 1 u hu
 ·rw [if_neg c] at e
  exact absurd (Prod.mk.inj e).2 c
theorem yauo {i:Nat} (hi:i < 16) (x:Ino) {k:Nat} (hk:k ≤ 8):UpIn (wrL (i:Int) x k):=by
 unfold wrL
 refine UpIn.app (fun u hu => ?_) (fun u hu => ?_)
 ·simp only [List.mem_cons,List.not_mem_nil,or_false] at hu
  rcases hu with rfl | rfl | rfl
  ·exact ⟨by show 48 ≤ 48 + 12 * (i:Int); omega,by show 48 + 12 * (i:Int) < 312; omega⟩
  ·exact ⟨by show 48 ≤ 48 + 12 * (i:Int) + 1; omega,by show 48 + 12 * (i:Int) + 1 < 312; omega⟩
  ·exact ⟨by show 48 ≤ 48 + 12 * (i:Int) + 2; omega,by show 48 + 12 * (i:Int) + 2 < 312; omega⟩
 ·obtain ⟨j,hj,rfl⟩:=List.mem_map.1 hu
  have:=List.mem_range.1 hj
  exact ⟨by show 48 ≤ 48 + 12 * (i:Int) + (3 + (j:Int)); omega,by show 48 + 12 * (i:Int) + (3 + (j:Int)) < 312; omega⟩
theorem yavd {ws:List Ino} {ps:List Den} {s:ByteArray} {us:List Se} (h:Img ws ps) (e:rmI ws ps s = (us,0)):UpIn us ∧ us.length ≤ 16:=by
 unfold rmI at e
 by_cases c:(paI ws ps s).2.2 = 0
 ·rw [if_pos c] at e
  unfold rmN at e
  cases q:zax ps (paI ws ps s).1 (paI ws ps s).2.1 with
  | none => rw [q] at e; simp at e
  | some k =>
   rw [q] at e
   simp only at e
   obtain ⟨hk,i,ei,_,hi,-⟩:=zls h q
   unfold rmC at e
   split at e
   ·simp at e
   ·obtain ⟨rfl,-⟩:=Prod.mk.inj e
    rw [ei]
    unfold rmU
    split
    ·exact ⟨UpIn.app (zoe hk _) (zso hi (by omega) _),by simp [enL]⟩
    ·exact ⟨UpIn.app (zoe hk _) (yauo hi _ (Nat.le_refl _)),by rw [List.length_append,zxi]; simp [enL]⟩
 ·rw [if_neg c] at e
  exact absurd (Prod.mk.inj e).2 c
theorem yavi {ws:List Ino} {ps:List Den} {s t:ByteArray} {us:List Se} (h:Img ws ps) (e:lnI ws ps s t = (us,0)):UpIn us ∧ us.length ≤ 16:=by
 unfold lnI at e
 by_cases c0:(lkI ws ps s).2 = 0
 ·rw [if_pos c0] at e
  split at e
  ·simp at e
  ·rename_i kk
   obtain ⟨i,ei,hi,_,_⟩:=zmj h c0 kk
   unfold lnP at e
   by_cases c:(paI ws ps t).2.2 = 0
   ·rw [if_pos c] at e
    unfold lnN at e
    split at e
    ·simp at e
    ·split at e
     ·simp at e
     ·rename_i f2
      obtain ⟨rfl,-⟩:=Prod.mk.inj e
      obtain ⟨k,ek,hk,-⟩:=zrs h f2
      rw [ei,ek]
      exact ⟨UpIn.app (zoe hk _) (zso hi (by omega) _),by simp [enL]⟩
   ·rw [if_neg c] at e
    exact absurd (Prod.mk.inj e).2 c
 ·rw [if_neg c0] at e
  exact absurd (Prod.mk.inj e).2 c0
theorem yamy {ws:List Ino} {ps:List Den} {s t:ByteArray} {us:List Se} (h:Img ws ps) (e:rnI ws ps s t = (us,0)):UpIn us ∧ us.length ≤ 16:=by
 unfold rnI at e
 by_cases c:(paI ws ps s).2.2 = 0
 ·rw [if_pos c] at e
  unfold rnE at e
  cases q:zax ps (paI ws ps s).1 (paI ws ps s).2.1 with
  | none => rw [q] at e; simp at e
  | some k =>
   rw [q] at e
   simp only at e
   obtain ⟨hk,-⟩:=zls h q
   unfold rnP at e
   by_cases d:(paI ws ps t).2.2 = 0
   ·rw [if_pos d] at e
    unfold rnN at e
    split at e
    ·simp at e
    ·split at e
     ·simp at e
     ·obtain ⟨rfl,-⟩:=Prod.mk.inj e
      exact ⟨zoe hk _,by simp [enL]⟩
   ·rw [if_neg d] at e
    exact absurd (Prod.mk.inj e).2 d
 ·rw [if_neg c] at e
  exact absurd (Prod.mk.inj e).2 c
theorem yapc {ls:List Int} {ns:List Ino} {ds:List Den} (h:Wi ls ns ds) (c0:wdI ls 8 = 0) {us:List Se} (ui:UpIn us ∧ us.length ≤ 16) {ns':List Ino} {ds':List Den} (q:Wi (zbk ls us) ns' ds') :
  ∃ ls',zno (ls,[]) (zdr (zdx us)) = (ls',[]) ∧ wdI ls' 8 = 0 ∧ Wi ls' ns' ds' :=
 ⟨zov ls us,zvk ls us,znv h.len c0,yaix h.len ui.2 ui.1 q⟩
theorem zaq {w:World} {b:Nat} {t:TypeId} {x y z u:Value} (h:w.heap[b]? = some (.cells #[x,y,z,u] t (0,0))) :
  w.cell? ⟨b,0,none⟩ = some x ∧ w.cell? ⟨b,1,none⟩ = some y ∧ w.cell? ⟨b,2,none⟩ = some z ∧ w.cell? ⟨b,3,none⟩ = some u ∧ w.frozen? ⟨b,0,none⟩ = false ∧ w.frozen? ⟨b,1,none⟩ = false ∧ w.frozen? ⟨b,2,none⟩ = false ∧ w.frozen? ⟨b,3,none⟩ = false:=by
 simp [World.cell?,World.frozen?,h]
def RdDev (w:World) (v:Value) (ws:List Int) (ps:List St) (es:List Int) (qs:List Se):Prop:=∃ vW vP vS vQ,v = .agg #[vW,vP,vS,vQ] ∧ RdPm w (.agg #[vW,vP]) ws ps ∧ RdBlk w (.agg #[vS,vQ]) es qs
def RowDev (w:World) (lo hi:Nat) (v:Value) (ws:List Int) (ps:List St) (es:List Int) (qs:List Se):Prop :=
 ∃ vW vP vS vQ l1 h1 l2 h2,v = .agg #[vW,vP,vS,vQ] ∧ RowPm w l1 h1 (.agg #[vW,vP]) ws ps ∧ RowBlk w l2 h2 (.agg #[vS,vQ]) es qs ∧ (lo ≤ l1 ∧ h1 ≤ hi ∧ lo ≤ l2 ∧ h2 ≤ hi ∧ (h1 ≤ l2 ∨ h2 ≤ l1))
theorem RowDev.rd {w:World} {lo hi:Nat} {v:Value} {ws:List Int} {ps:List St} {es:List Int} {qs:List Se} (h:RowDev w lo hi v ws ps es qs):RdDev w v ws ps es qs:=by
 obtain ⟨vW,vP,vS,vQ,_,_,_,_,e,h1,h2,_⟩:=h
 exact ⟨vW,vP,vS,vQ,e,h1.rd,h2.rd⟩
theorem RdDev.below {w w':World} {v:Value} {ws:List Int} {ps:List St} {es:List Int} {qs:List Se} (h:RdDev w v ws ps es qs) (hb:Below w.heap.size w w'):RdDev w' v ws ps es qs:=by
 obtain ⟨vW,vP,vS,vQ,e,h1,h2⟩:=h
 exact ⟨vW,vP,vS,vQ,e,h1.below hb,h2.below hb⟩
theorem RdDev.form {w:World} {v:Value} {ws:List Int} {ps:List St} {es:List Int} {qs:List Se} (h:RdDev w v ws ps es qs):∃ aW cW aP cP aS cS aQ cQ,v = .agg #[.slice aW ws.length cW,.slice aP ps.length cP,.slice aS es.length cS,.slice aQ qs.length cQ] ∧ RdPm w (.agg #[.slice aW ws.length cW,.slice aP ps.length cP]) ws ps ∧ RdBlk w (.agg #[.slice aS es.length cS,.slice aQ qs.length cQ]) es qs:=by
 obtain ⟨vW,vP,vS,vQ,rfl,⟨_,_,e1,h1,h2⟩,⟨_,_,e2,h3,h4⟩⟩:=h
 cases e1
 cases e2
 obtain ⟨aW,cW,rfl,_⟩:=h1.shape
 obtain ⟨aP,cP,rfl,_⟩:=h2.shape
 obtain ⟨aS,cS,rfl,_⟩:=h3.shape
 obtain ⟨aQ,cQ,rfl,_⟩:=h4.shape
 exact ⟨aW,cW,aP,cP,aS,cS,aQ,cQ,rfl,⟨_,_,rfl,h1,h2⟩,⟨_,_,rfl,h3,h4⟩⟩
theorem RowPm.form {w:World} {lo hi:Nat} {v:Value} {ws:List Int} {ps:List St} (h:RowPm w lo hi v ws ps):∃ aW cW aP cP,v = .agg #[.slice aW ws.length cW,.slice aP ps.length cP]:=by
 obtain ⟨vW,vP,rfl,h1,h2⟩:=h.rd
 obtain ⟨aW,cW,rfl,_⟩:=h1.shape
 obtain ⟨aP,cP,rfl,_⟩:=h2.shape
 exact ⟨aW,cW,aP,cP,rfl⟩
theorem RowBlk.form {w:World} {lo hi:Nat} {v:Value} {ws:List Int} {ps:List Se} (h:RowBlk w lo hi v ws ps):∃ aW cW aP cP,v = .agg #[.slice aW ws.length cW,.slice aP ps.length cP]:=by
 obtain ⟨vW,vP,rfl,h1,h2⟩:=h.rd
 obtain ⟨aW,cW,rfl,_⟩:=h1.shape
 obtain ⟨aP,cP,rfl,_⟩:=h2.shape
 exact ⟨aW,cW,aP,cP,rfl⟩
end Go.Proofs.YtkdjfhkalelafaaGreatDoor
