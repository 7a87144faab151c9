/- What is renamed is found beneath its new name alone; renamed back all is as it was: mathematics. -/
import Derived.Test.YtkdjfhkalelafaaGreatDoorZBC
namespace Go.Proofs.YtkdjfhkalelafaaGreatDoor
theorem yafe:(oneP ++ twoP).all (fun p => decide ((spL p).length ≤ 2)) = true:=by kernel_rfl
theorem PathD.two {p:ByteArray} (h:PathD p):(spL p).length ≤ 2:=of_decide_eq_true (List.all_eq_true.1 yafe p (List.mem_append.2 h))
theorem yaqm {ws:List Ino} {ps:List Den} {t:ByteArray} {d:Int} {nm:ByteArray} (ht:PathD t) (p:paI ws ps t = (d,nm,0)):(spL t = [nm] ∧ d = 0 ∧ zai ws 0 = 2) ∨ ∃ x j,spL t = [x,nm] ∧ zai ws 0 = 2 ∧ zax ps 0 x = some j ∧ d = zal ps j ∧ zai ws d = 2:=by
 obtain ⟨xs,el,ew,ek⟩:=zyc ht p
 have l:=ht.two
 rw [el,List.length_append] at l
 match xs,el,ew,l with
 | [],el,ew,_ =>
  have e0:d = 0:=(Prod.mk.inj ew).1.symm
  subst e0
  exact .inl ⟨el,rfl,ek⟩
 | [x],el,ew,_ =>
  by_cases k0:zai ws 0 = 2
  ·cases ej:zax ps 0 x with
   | none => rw [zgs k0 ej] at ew; cases ew
   | some j =>
    rw [zfu k0 ej] at ew
    exact .inr ⟨x,j,el,k0,ej,(Prod.mk.inj ew).1.symm,ek⟩
  ·rw [zfa k0] at ew; cases ew
 | _ :: _ :: _,_,_,l => simp at l
theorem yaqd {ws:List Ino} {ps:List Den} {t:ByteArray} {nm:ByteArray} (ht:PathD t) (el:spL t = [nm]) (k:zai ws 0 = 2):paI ws ps t = (0,nm,0):=by
 unfold paI
 rw [if_pos ht.down.1,show spL t = [] ++ [nm] from el,zid]
 unfold paN
 rw [show wk ws ps 0 [] = (0,0) from rfl]
 simp only [if_true]
 rw [if_pos k]
theorem yahu {ws:List Ino} {ps:List Den} {t:ByteArray} {x nm:ByteArray} {j:Nat} (ht:PathD t) (el:spL t = [x,nm]) (k:zai ws 0 = 2) (e:zax ps 0 x = some j) (kc:zai ws (zal ps j) = 2):paI ws ps t = (zal ps j,nm,0):=by
 unfold paI
 rw [if_pos ht.down.1,show spL t = [x] ++ [nm] from el,zid]
 unfold paN
 rw [zfu k e,show wk ws ps (zal ps j) [] = (zal ps j,0) from rfl]
 simp only [if_true]
 rw [if_pos kc]
theorem yavb {ws:List Ino} {ps:List Den} {t:ByteArray} {d:Int} {nm:ByteArray} {k:Nat} (ht:PathD t) (p:paI ws ps t = (d,nm,0)) (e:zax ps d nm = some k):lkI ws ps t = (zal ps k,0):=by
 obtain ⟨xs,el,ew,ek⟩:=zyc ht p
 unfold lkI
 rw [if_pos ht.down.1,el,zyl,ew]
 simp only [if_true]
 rw [if_pos ek,e]
theorem zzu {d:Int} {nm:ByteArray} {x:Den} (h:zbg d nm x = true):0 ≤ x.child ∧ x.dir = d ∧ x.name.toList = nm.toList:=by
 unfold zbg at h
 simp only [Bool.and_eq_true,decide_eq_true_eq,beq_iff_eq] at h
 exact h
theorem zsk {a b:ByteArray} (h:a.toList = b.toList):a = b:=by
 cases a with
 | mk a => cases b with
  | mk b =>
   congr 1
   have q:∀ c:ByteArray,c.toList = c.data.toList:=fun c => ByteArray.toList_eq c
   have:=(q ⟨a⟩).symm.trans (h.trans (q ⟨b⟩))
   exact Array.toList_inj.1 this
theorem yaof {ws:List Ino} {ps:List Den} {s t:ByteArray} {us:List Se} (e:rnI ws ps s t = (us,0)) :
  ∃ (k:Nat) (d0 d:Int) (n0 nm:ByteArray),paI ws ps s = (d0,n0,0) ∧ zax ps d0 n0 = some k ∧ paI ws ps t = (d,nm,0) ∧ zax ps d nm = none ∧ ¬ (zai ws (zal ps k) = 2 ∧ zgj ps 17 d (zal ps k) = true) ∧ us = enL (k:Int) ⟨d,nm,zal ps k⟩:=by
 unfold rnI at e
 by_cases c0:(paI ws ps s).2.2 = 0
 ·rw [if_pos c0] at e
  unfold rnE at e
  cases en0:zax ps (paI ws ps s).1 (paI ws ps s).2.1 with
  | none => rw [en0] at e; cases e
  | some k =>
   rw [en0] at e
   have e':rnP ws ps t k = (us,0):=e
   unfold rnP at e'
   by_cases c:(paI ws ps t).2.2 = 0
   ·rw [if_pos c] at e'
    unfold rnN at e'
    by_cases c2:0 ≤ zkf ps (paI ws ps t).1 (paI ws ps t).2.1
    ·rw [if_pos c2] at e'; cases e'
    ·rw [if_neg c2] at e'
     have en:=zhw.2 c2
     by_cases c3:zai ws (zal ps k) = 2 ∧ zgj ps 17 (paI ws ps t).1 (zal ps k) = true
     ·rw [if_pos c3] at e'; cases e'
     ·rw [if_neg c3] at e'
      generalize paI ws ps t = pr at *
      obtain ⟨d,nm,pc⟩:=pr
      generalize paI ws ps s = pq at *
      obtain ⟨d0,n0,qc⟩:=pq
      simp only at c en e' c0 en0 c3
      subst c c0
      injection e' with e' _
      exact ⟨k,d0,d,n0,nm,rfl,en0,rfl,en,c3,e'.symm⟩
   ·rw [if_neg c] at e'
    injection e' with _ e'
    exact absurd e' c
 ·rw [if_neg c0] at e
  injection e with _ e
  exact absurd e c0
theorem yaxj {ws:List Ino} {ps:List Den} {s t:ByteArray} {k:Nat} {d0 d:Int} {n0 nm:ByteArray} (p0:paI ws ps s = (d0,n0,0)) (e0:zax ps d0 n0 = some k) (p1:paI ws ps t = (d,nm,0)) (e1:zax ps d nm = none) (lp:¬ (zai ws (zal ps k) = 2 ∧ zgj ps 17 d (zal ps k) = true)):rnI ws ps s t = (enL (k:Int) ⟨d,nm,zal ps k⟩,0):=by
 unfold rnI
 rw [p0]
 simp only [if_true]
 unfold rnE
 rw [e0]
 simp only
 unfold rnP
 rw [p1]
 simp only [if_true]
 unfold rnN
 rw [if_neg (zhw.1 e1),if_neg lp]
theorem yafp {ws:List Ino} {ps:List Den} (h:Img ws ps):upD ps 0 = -1:=zzy (fun j hj e => by
 have j24:j < 24:=by have:=h.l24; omega
 rcases h.ent j j24 with f | f
 ·rw [zaz hj] at f
  rw [f] at e
  simp [freeD] at e
 ·rw [zaz hj] at f
  have:=f.1
  omega)
theorem yabn {ws:List Ino} {ps:List Den} (h:Img ws ps) {c:Int} (hc:1 ≤ c ∧ c ≤ 15) (kc:zai ws c = 2) {j k:Nat} (hj:j < ps.length) (hk:k < ps.length) (ej:ps[j].child = c) (ek:ps[k].child = c):j = k:=by
 obtain ⟨n,rfl⟩:∃ n:Nat,c = (n:Int):=⟨c.toNat,by omega⟩
 have kn:(zan ws n).kind = 2:=by
  unfold zai at kc
  unfold zan
  rw [Int.toNat_natCast] at kc
  exact kc
 have l:=h.links n (by omega)
 rw [(zhx (h.ok n (by omega)) kn).1,if_neg (by omega)] at l
 have c1:zje ps (n:Int) = 1:=by omega
 exact yahs c1 hj hk (by rw [zaz hj]; exact ej) (by rw [zaz hk]; exact ek)
theorem yawb {ws:List Ino} {ps:List Den} (h:Img ws ps) {c:Int} (hc:1 ≤ c ∧ c ≤ 15) (kc:zai ws c = 2) {j:Nat} (hj:j < ps.length) (ej:ps[j].child = c):upD ps c = ps[j].dir :=
 ztj hj (fun i hi lt e => by have:=yabn h hc kc hi hj e ej; omega) ej
theorem yalm {ls es:List Int} {ns:List Ino} {ds:List Den} {s t:ByteArray} {us:List Se} (h:Idle ls es ns ds) (hs:PathD s) (ht:PathD t) (e:rnI ns ds s t = (us,0)) :
  us.length ≤ 16 ∧ (auC ls [] us = 0 ∧ auW ls [] us = zbk ls us ∧ auP ls [] us = [] ∧ riC (zbk ls us) [] = 0) ∧ ∃ (i:Int) (ds':List Den) (vs:List Se),riN (zbk ls us) [] = ns ∧ riD (zbk ls us) [] = ds' ∧ Idle (zbk ls us) es ns ds' ∧ lkI ns ds s = (i,0) ∧ lkI ns ds' t = (i,0) ∧ lkI ns ds' s = (0,5) ∧ rnI ns ds' t s = (vs,0) ∧ vs.length ≤ 16 ∧ (auC (zbk ls us) [] vs = 0 ∧ auW (zbk ls us) [] vs = zbk (zbk ls us) vs ∧ auP (zbk ls us) [] vs = [] ∧ riC (zbk (zbk ls us) vs) [] = 0) ∧ riN (zbk (zbk ls us) vs) [] = ns ∧ riD (zbk (zbk ls us) vs) [] = ds:=by
 obtain ⟨ui,ul⟩:=yamy h.wi.img e
 have uv:=yasx h.wi.img e
 obtain ⟨k,d0,d,n0,nm,p0,e0,p1,e1,lp,eu⟩:=yaof e
 obtain ⟨i,k',d0',d',n0',nm',p0',e0',ci,i16,k24,p1',-,W⟩:=zpg h.wi e
 rw [p0] at p0'
 rw [p1] at p1'
 cases p0'
 cases p1'
 rw [e0] at e0'
 cases e0'
 have IM:=h.wi.img
 have hk:k < ds.length:=by have:=IM.l24; omega
 have ck:zal ds k = (i:Int):=by rw [zbh hk,← zaz hk]; exact ci
 obtain ⟨_,hit,_⟩:=zhj.1 e0
 obtain ⟨-,kdir,knam⟩:=zzu hit
 have kname:=zsk knam
 have EK:zhi ns (zau ds k):=by
  rcases IM.ent k k24 with f | f
  ·rw [f] at ci
   simp [freeD] at ci
  ·exact f
 rw [zaz hk] at EK
 have i1:1 ≤ (i:Int):=by have:=EK.1; rw [zaz hk] at ci; omega
 obtain ⟨a1,a2,a3,-,a4,a5,a6⟩:=ztb h ui ul uv W
 have I:=yand h ui ul uv W
 have IM2:=I.wi.img
 have root:=IM.root
 -- the new entries
 have hk2:k < (ds.set k ⟨d,nm,(i:Int)⟩).length:=by rw [List.length_set]; exact hk
 have put:zax (ds.set k ⟨d,nm,(i:Int)⟩) d nm = some k:=yard hk (by omega) e1
 have ck2:zal (ds.set k ⟨d,nm,(i:Int)⟩) k = (i:Int):=yajc hk
 have gone:zax (ds.set k ⟨d,nm,(i:Int)⟩) d0 n0 = none:=zxb.2 (fun x hx => by
  by_cases q:zbg d0 n0 x = true
  ·exfalso
   obtain ⟨j,hj,rfl⟩:=List.getElem_of_mem hx
   have hj':j < ds.length:=by rw [List.length_set] at hj; exact hj
   by_cases jk:k = j
   ·subst jk
    rw [List.getElem_set_self] at q
    obtain ⟨-,q2,q3⟩:=zzu q
    have q4:d = d0:=q2
    have q5:nm = n0:=zsk q3
    rw [q4,q5,e0] at e1
    cases e1
   ·rw [List.getElem_set_ne jk] at q
    obtain ⟨r1,r2,r3⟩:=zzu q
    have j24:j < 24:=by have:=IM.l24; omega
    have:=IM.once j k j24 k24 (by rw [zaz hj']; exact r1) (by rw [ci]; omega) (by rw [zaz hj',zaz hk,r2,kdir]) (by rw [zaz hj',zaz hk,zsk r3,kname])
    omega
  ·simpa using q)
 -- the parents stand
 have pt:paI ns (ds.set k ⟨d,nm,(i:Int)⟩) t = (d,nm,0):=by
  rcases yaqm ht p1 with ⟨el,q,kr⟩ | ⟨x,j,el,kr,ej,q,kd⟩
  ·rw [q]; exact yaqd ht el kr
  ·have ne:¬ k = j:=by
    rintro rfl
    rw [q,ck] at kd
    refine lp ⟨by rw [ck]; exact kd,?_⟩
    rw [q,ck,zdi,if_neg (by omega),if_pos rfl]
   have cj:=zql (ps:=ds) (x:=⟨d,nm,(i:Int)⟩) ne
   have:=yahu ht el kr (yaaj (c:=(i:Int)) e1 ej ne) (by rw [cj,← q]; exact kd)
   rw [cj,← q] at this
   exact this
 have back:paI ns (ds.set k ⟨d,nm,(i:Int)⟩) s = (d0,n0,0) ∧ ¬ (zai ns (i:Int) = 2 ∧ zgj (ds.set k ⟨d,nm,(i:Int)⟩) 17 d0 (i:Int) = true):=by
  rcases yaqm hs p0 with ⟨el,q,kr⟩ | ⟨x,j,el,kr,ej,q,kd⟩
  ·refine ⟨by rw [q]; exact yaqd hs el kr,fun b => ?_⟩
   have b2:=b.2
   rw [q,zdi,if_neg (by omega),if_neg (by omega),yafp IM2,zkr _ _ _ _ (by omega)] at b2
   cases b2
  ·obtain ⟨hj,jh,-⟩:=zhj.1 ej
   obtain ⟨jc,jd,-⟩:=zzu jh
   have cj0:=zbh hj
   have ne:¬ k = j:=by
    rintro rfl
    rw [kdir] at jd
    rw [ck] at q
    omega
   have cj:=zql (ps:=ds) (x:=⟨d,nm,(i:Int)⟩) ne
   refine ⟨?_,fun b => ?_⟩
   ·have:=yahu hs el kr (yaaj (c:=(i:Int)) e1 ej ne) (by rw [cj,← q]; exact kd)
    rw [cj,← q] at this
    exact this
   ·obtain ⟨b1,b2⟩:=b
    have dj:d0 = ds[j].child:=by rw [q,cj0]
    have ni:¬ d0 = (i:Int):=fun r => ne (yabn IM ⟨i1,by omega⟩ b1 hk hj (by rw [zaz hk] at ci; exact ci) (by rw [← dj]; exact r))
    have ke:=EK.2.1
    rw [kdir] at ke
    have d1:1 ≤ d0:=by
     have j24:j < 24:=by have:=IM.l24; omega
     rcases IM.ent j j24 with f | f
     ·rw [zaz hj] at f
      rw [f] at jc
      simp [freeD] at jc
     ·rw [zaz hj] at f
      have:=f.1
      omega
    have hj2:j < (ds.set k ⟨d,nm,(i:Int)⟩).length:=by rw [List.length_set]; exact hj
    have up:=yawb IM2 ⟨d1,ke.2⟩ kd hj2 (by rw [List.getElem_set_ne ne]; exact dj.symm)
    rw [List.getElem_set_ne ne,jd] at up
    rw [zdi,if_neg (by omega),if_neg ni,up,zdi,if_neg (by omega),if_neg (by omega),yafp IM2,zkr _ _ _ _ (by omega)] at b2
    cases b2
 have rt:=yaxj pt put back.1 gone (by rw [ck2]; exact back.2)
 rw [ck2] at rt
 obtain ⟨vi,vl⟩:=yamy IM2 rt
 have vv:=yasx IM2 rt
 obtain ⟨i',k2,g1,g2,g3,g4,w1,w2,w3,-,-,w4,-,W2⟩:=zpg I.wi rt
 rw [pt] at w1
 rw [back.1] at w4
 cases w1
 cases w4
 rw [put] at w2
 cases w2
 have ei:i' = i:=by
  rw [zaz hk2,List.getElem_set_self] at w3
  have:(i:Int) = (i':Int):=w3
  omega
 subst ei
 have ds2:(ds.set k ⟨d,nm,(i':Int)⟩).set k ⟨d0,n0,(i':Int)⟩ = ds:=by
  rw [List.set_set]
  have:ds[k] = ⟨d0,n0,(i':Int)⟩:=by
   rw [zaz hk] at ci
   rw [← ci,← kdir,← kname]
  rw [← this]
  exact List.set_getElem_self hk
 rw [ds2] at W2
 obtain ⟨b1,b2,b3,-,b4,b5,b6⟩:=ztb I vi vl vv W2
 exact ⟨ul,⟨a1,a2,a3,a4⟩,(i':Int),_,_,a5,a6,I,(yavb hs p0 e0).trans (by rw [ck]),(yavb ht pt put).trans (by rw [ck2]),yarr hs back.1 gone,rt,vl,⟨b1,b2,b3,b4⟩,b5,b6⟩
end Go.Proofs.YtkdjfhkalelafaaGreatDoor
