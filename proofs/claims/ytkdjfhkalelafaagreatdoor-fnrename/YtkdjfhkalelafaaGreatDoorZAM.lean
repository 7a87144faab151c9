/- Several texts laid together: IgD, IgE, Pm, PmOK, Ev, PmOKI. -/
import Derived.Test.YtkdjfhkalelafaaGreatDoorZAL
import Derived.Test.YtkdjfhkalelafaaGreatDoorZAC
import Derived.Deep.RegionWith
namespace Go.Proofs.YtkdjfhkalelafaaGreatDoor
open Go.RowKit
def zcn (x:Ino):Ino:=if 1 < x.links then ⟨x.kind,x.size,x.links - 1,x.m0,x.m1,x.m2,x.m3,x.m4,x.m5,x.m6,x.m7⟩ else zhu
def zgv (x:Ino):Ino:=⟨x.kind,x.size,x.links + 1,x.m0,x.m1,x.m2,x.m3,x.m4,x.m5,x.m6,x.m7⟩
theorem zcp {x:Ino} (h:zdy x = true):(0 ≤ x.kind ∧ x.kind ≤ 2) ∧ (0 ≤ x.size ∧ x.size ≤ 8) ∧ (0 ≤ x.links ∧ x.links ≤ 24) ∧ mapB x.map x.size = true ∧ zfb x = true:=by
 unfold zdy at h
 simp only [Bool.and_eq_true,decide_eq_true_eq] at h
 exact h
theorem zzl {x:Ino} (h1:0 ≤ x.kind ∧ x.kind ≤ 2) (h2:0 ≤ x.size ∧ x.size ≤ 8) (h3:0 ≤ x.links ∧ x.links ≤ 24) (h4:mapB x.map x.size = true) (h5:zfb x = true):zdy x = true:=by
 unfold zdy
 rw [decide_eq_true h1,decide_eq_true h2,decide_eq_true h3,h4,h5]
 rfl
theorem zhx {x:Ino} (h:zdy x = true) (k:x.kind = 2):x.links = 1 ∧ x.size = 0:=by
 have:=(zcp h).2.2.2.2
 unfold zfb at this
 rw [if_neg (by omega),if_pos k] at this
 simp only [Bool.and_eq_true,beq_iff_eq] at this
 exact ⟨this.2,this.1⟩
theorem yadn {x:Ino} (h:zdy x = true) (k:¬ x.kind = 0):0 < x.links:=by
 by_cases q:x.kind = 2
 ·rw [(zhx h q).1]; decide
 ·have:=(zcp h).2.2.2.2
  unfold zfb at this
  rw [if_neg k,if_neg q] at this
  simpa using this
theorem yaqo {x:Ino} (h:zdy x = true):zdy (zcn x) = true:=by
 unfold zcn
 split
 ·rename_i q
  obtain ⟨a,b,c,d,e⟩:=zcp h
  have k2:¬ x.kind = 2:=fun k => by have:=(zhx h k).1; omega
  have k0:¬ x.kind = 0:=by
   intro k
   unfold zfb at e
   rw [if_pos k] at e
   have:=(of_decide_eq_true e).2.1
   omega
  refine zzl a b ⟨by show 0 ≤ x.links - 1; omega,by show x.links - 1 ≤ 24; omega⟩ d ?_
  unfold zfb
  rw [if_neg k0,if_neg k2]
  exact decide_eq_true (show 0 < x.links - 1 by omega)
 ·decide
theorem yasf {x:Ino} (h:zdy x = true) (k:x.kind = 1) (l:x.links < 24):zdy (zgv x) = true:=by
 obtain ⟨a,b,c,d,e⟩:=zcp h
 refine zzl a b ⟨by show 0 ≤ x.links + 1; omega,by show x.links + 1 ≤ 24; omega⟩ d ?_
 unfold zfb
 rw [if_neg (by show ¬ x.kind = 0; omega),if_neg (by show ¬ x.kind = 2; omega)]
 exact decide_eq_true (show 0 < x.links + 1 by omega)
theorem yahb {x:Ino}:(zdg (zcn x).map).Sublist (zdg x.map):=by
 unfold zcn
 split
 ·exact List.Sublist.refl _
 ·exact List.nil_sublist _
theorem yava (ps:List Den) (c:Int):zje ps c ≤ ps.length:=List.length_filter_le _ _
theorem yall {ps:List Den} {c:Int} {k:Nat} (hk:k < ps.length) (ne:¬ (zau ps k).child = c):zje ps c < ps.length:=by
 have a:=zgp ps k ⟨0,⟨#[]⟩,c⟩ c hk
 rw [if_neg ne,if_pos rfl] at a
 have:=yava (ps.set k ⟨0,⟨#[]⟩,c⟩) c
 rw [List.length_set] at this
 omega
theorem yacb {ws:List Ino} {ps:List Den} (h:Img ws ps) {i k:Nat} (hk:k < 24) (ci:(zau ps k).child = (i:Int)) (em:∀ j,j < 24 → ¬ (0 ≤ (zau ps j).child ∧ (zau ps j).dir = (i:Int))) :
  Img (ws.set i (zcn (zan ws i))) (ps.set k freeD):=by
 have hk':k < ps.length:=by rw [h.l24]; exact hk
 have ek:zhi ws (zau ps k):=by
  rcases h.ent k hk with q | q
  ·rw [q] at ci
   have:(-1:Int) = (i:Int):=ci
   omega
  ·exact q
 have hi:i < 16:=by have:=ek.1; omega
 have i0:¬ i = 0:=by have:=ek.1; omega
 have hi':i < ws.length:=by rw [h.l16]; exact hi
 have ki:¬ (zan ws i).kind = 0:=by rw [← zbf,← ci]; exact ek.2.2.2.1
 have KA:=fun c hc => zmm hi' (zcn (zan ws i)) c hc
 have noin:∀ c,0 ≤ c → 0 ≤ upD ps c → ¬ upD ps c = (i:Int):=by
  intro c hc hu e
  obtain ⟨j,hj,cj,dj,q⟩:=yaql h.ent' hc hu
  exact em j (by rw [h.l24] at hj; exact hj) ⟨by omega,by rw [dj,e]⟩
 have ln:=h.links i hi
 rw [if_neg i0] at ln
 have entn:∀ j,j < 24 → zau (ps.set k freeD) j = freeD ∨ zhi (ws.set i (zcn (zan ws i))) (zau (ps.set k freeD) j):=by
  intro j hj
  rw [zbb hk']
  by_cases e:j = k
  ·rw [if_pos e]; exact .inl rfl
  ·rw [if_neg e]
   rcases h.ent j hj with q | q
   ·exact .inl q
   ·right
    have dne:¬ (zau ps j).dir = (i:Int):=fun e => em j hj ⟨by have:=q.1; omega,e⟩
    obtain ⟨q1,q2,q3,q4,q5⟩:=q
    refine ⟨q1,q2,q3,?_,?_⟩
    ·rw [KA _ (by omega)]
     by_cases e2:(zau ps j).child = (i:Int)
     ·rw [if_pos e2]
      have two:1 < (zan ws i).links:=by
       have a:=zgp ps k freeD (i:Int) hk'
       rw [if_pos ci,if_neg (show ¬ freeD.child = (i:Int) by show ¬ (-1:Int) = (i:Int); omega)] at a
       have b:¬ zje (ps.set k freeD) (i:Int) = 0:=by
        intro z
        refine zmr z j (by rw [List.length_set,h.l24]; exact hj) ?_
        rw [zbb hk',if_neg e]
        exact e2
       omega
      unfold zcn
      rw [if_pos two]
      exact ki
     ·rw [if_neg e2]; exact q4
    ·rw [KA _ q2.1,if_neg dne]; exact q5
 have entn':∀ j,j < (ps.set k freeD).length → zau (ps.set k freeD) j = freeD ∨ zhi (ws.set i (zcn (zan ws i))) (zau (ps.set k freeD) j):=fun j hj => entn j (by rw [List.length_set,h.l24] at hj; exact hj)
 have US:∀ c,0 ≤ c → ¬ c = (i:Int) → upD (ps.set k freeD) c = upD ps c:=by
  intro c hc ne
  refine zse (by simp) ?_
  intro j hj
  rw [zbb hk']
  by_cases e:j = k
  ·rw [if_pos e]
   right
   refine ⟨?_,?_⟩
   ·intro q
    have:(-1:Int) = c:=q
    omega
   ·rw [e,ci]; exact fun q => ne q.symm
  ·rw [if_neg e]; exact .inl rfl
 refine ⟨by rw [List.length_set]; exact h.l16,by rw [List.length_set]; exact h.l24,?_,?_,entn,?_,?_,?_,?_⟩
 ·rw [KA 0 (by omega),if_neg (by omega)]; exact h.root
 ·intro j hj
  rw [zcq hi']
  by_cases e:j = i
  ·rw [if_pos e]; exact yaqo (h.ok i hi)
  ·rw [if_neg e]; exact h.ok j hj
 ·intro j l hj hl cj cl ed en
  rw [zbb hk'] at cj ed en
  rw [zbb hk' _ l] at cl ed en
  have e1:¬ j = k:=by
   intro e
   rw [if_pos e] at cj
   exact absurd cj (by decide)
  have e2:¬ l = k:=by
   intro e
   rw [if_pos e] at cl
   exact absurd cl (by decide)
  rw [if_neg e1,if_neg e2] at ed en
  rw [if_neg e1] at cj
  rw [if_neg e2] at cl
  exact h.once j l hj hl cj cl ed en
 ·intro j hj
  have c:=zgp ps k freeD (j:Int) hk'
  rw [if_neg (show ¬ freeD.child = (j:Int) by show ¬ (-1:Int) = (j:Int); omega)] at c
  rw [zcq hi']
  by_cases e:j = i
  ·rw [if_pos (show (zau ps k).child = (j:Int) by rw [ci]; omega)] at c
   rw [if_pos e,if_neg (by omega)]
   have l1:=yadn (h.ok i hi) ki
   rw [e] at c ⊢
   unfold zcn
   by_cases two:1 < (zan ws i).links
   ·rw [if_pos two]
    show 0 + ((zje _ (i:Int):Nat):Int) = (zan ws i).links - 1
    omega
   ·rw [if_neg two]
    show 0 + ((zje _ (i:Int):Nat):Int) = 0
    omega
  ·rw [if_neg (show ¬ (zau ps k).child = (j:Int) by rw [ci]; omega)] at c
   rw [if_neg e,← h.links j hj]
   have:zje (ps.set k freeD) (j:Int) = zje ps (j:Int):=by omega
   rw [this]
 ·intro j hj kj
  rw [zcq hi'] at kj
  have e:¬ j = i:=by
   intro e
   rw [if_pos e] at kj
   unfold zcn at kj
   split at kj
   ·rename_i two
    have:=(zhx (h.ok i hi) kj).1
    omega
   ·exact absurd kj (by decide)
  rw [if_neg e] at kj
  refine zmw ?_ ⟨by omega,by omega⟩ (yanm entn')
  exact zms (G:=fun c => 0 ≤ c) (i:=(i:Int)) (fun c hc hu => ⟨noin c hc hu,hu⟩) (fun c hc ne => US c hc ne) (h.rch hj kj) (by omega) (by omega)
 ·exact zmq hi' h.sing yahb
theorem yanq {ws:List Ino} {ps:List Den} (h:Img ws ps) {i k:Nat} {d:Int} {nm:ByteArray} (hi:i < 16) (i0:¬ i = 0) (ki:(zan ws i).kind = 1) (hk:k < 24) (fk:zau ps k = freeD)
  (hd:0 ≤ d ∧ d ≤ 15) (dd:zai ws d = 2) (hn:nmB nm = true) (new:∀ j,j < 24 → 0 ≤ (zau ps j).child → (zau ps j).dir = d → ¬ (zau ps j).name = nm) :
  Img (ws.set i (zgv (zan ws i))) (ps.set k ⟨d,nm,(i:Int)⟩):=by
 have hi':i < ws.length:=by rw [h.l16]; exact hi
 have hk':k < ps.length:=by rw [h.l24]; exact hk
 have KA:∀ c,0 ≤ c → zai (ws.set i (zgv (zan ws i))) c = zai ws c:=by
  intro c hc
  rw [zmm hi' _ c hc]
  by_cases e:c = (i:Int)
  ·rw [if_pos e,e,zbf]; rfl
  ·rw [if_neg e]
 have room:=yall (c:=(i:Int)) hk' (by rw [fk]; show ¬ (-1:Int) = (i:Int); omega)
 have ln:=h.links i hi
 rw [if_neg i0] at ln
 have entn:∀ j,j < 24 → zau (ps.set k ⟨d,nm,(i:Int)⟩) j = freeD ∨ zhi (ws.set i (zgv (zan ws i))) (zau (ps.set k ⟨d,nm,(i:Int)⟩) j):=by
  intro j hj
  rw [zbb hk']
  by_cases e:j = k
  ·rw [if_pos e]
   right
   refine ⟨⟨?_,?_⟩,hd,hn,?_,?_⟩
   ·show 1 ≤ (i:Int); omega
   ·show (i:Int) ≤ 15; omega
   ·show ¬ zai _ (i:Int) = 0
    rw [KA _ (by omega),zbf,ki]; decide
   ·show zai _ d = 2
    rw [KA _ hd.1]; exact dd
  ·rw [if_neg e]
   rcases h.ent j hj with q | q
   ·exact .inl q
   ·right
    obtain ⟨q1,q2,q3,q4,q5⟩:=q
    exact ⟨q1,q2,q3,by rw [KA _ (by omega)]; exact q4,by rw [KA _ q2.1]; exact q5⟩
 have entn':∀ j,j < (ps.set k ⟨d,nm,(i:Int)⟩).length → zau (ps.set k ⟨d,nm,(i:Int)⟩) j = freeD ∨ zhi (ws.set i (zgv (zan ws i))) (zau (ps.set k ⟨d,nm,(i:Int)⟩) j):=fun j hj => entn j (by rw [List.length_set,h.l24] at hj; exact hj)
 have US:∀ c,0 ≤ c → ¬ c = (i:Int) → upD (ps.set k ⟨d,nm,(i:Int)⟩) c = upD ps c:=by
  intro c hc ne
  refine zse (by simp) ?_
  intro j hj
  rw [zbb hk']
  by_cases e:j = k
  ·rw [if_pos e]
   right
   refine ⟨fun q => ne q.symm,?_⟩
   rw [e,fk]
   intro q
   have:(-1:Int) = c:=q
   omega
  ·rw [if_neg e]; exact .inl rfl
 refine ⟨by rw [List.length_set]; exact h.l16,by rw [List.length_set]; exact h.l24,?_,?_,entn,?_,?_,?_,?_⟩
 ·rw [KA 0 (by omega)]; exact h.root
 ·intro j hj
  rw [zcq hi']
  by_cases e:j = i
  ·rw [if_pos e]
   refine yasf (h.ok i hi) ki ?_
   have:=h.l24
   omega
  ·rw [if_neg e]; exact h.ok j hj
 ·intro j l hj hl cj cl ed en
  rw [zbb hk'] at cj ed en
  rw [zbb hk' _ l] at cl ed en
  by_cases e1:j = k
  ·by_cases e2:l = k
   ·omega
   ·rw [if_pos e1,if_neg e2] at ed en
    rw [if_neg e2] at cl
    exact absurd en.symm (new l hl cl ed.symm)
  ·by_cases e2:l = k
   ·rw [if_neg e1,if_pos e2] at ed en
    rw [if_neg e1] at cj
    exact absurd en (new j hj cj ed)
   ·rw [if_neg e1,if_neg e2] at ed en
    rw [if_neg e1] at cj
    rw [if_neg e2] at cl
    exact h.once j l hj hl cj cl ed en
 ·intro j hj
  have c:=zgp ps k ⟨d,nm,(i:Int)⟩ (j:Int) hk'
  rw [fk,if_neg (show ¬ freeD.child = (j:Int) by show ¬ (-1:Int) = (j:Int); omega)] at c
  rw [zcq hi']
  by_cases e:j = i
  ·rw [if_pos (show (i:Int) = (j:Int) by omega)] at c
   rw [if_pos e,if_neg (by omega)]
   rw [e] at c ⊢
   show 0 + ((zje _ (i:Int):Nat):Int) = (zan ws i).links + 1
   omega
  ·rw [if_neg (show ¬ (i:Int) = (j:Int) by omega)] at c
   rw [if_neg e,← h.links j hj]
   have:zje (ps.set k ⟨d,nm,(i:Int)⟩) (j:Int) = zje ps (j:Int):=by omega
   rw [this]
 ·intro j hj kj
  rw [zcq hi'] at kj
  have e:¬ j = i:=by
   intro e
   rw [if_pos e] at kj
   have:(zan ws i).kind = 2:=kj
   omega
  rw [if_neg e] at kj
  refine zmw ?_ ⟨by omega,by omega⟩ (yanm entn')
  refine zms (G:=fun c => 0 ≤ c) (i:=(i:Int)) (fun c hc hu => ⟨?_,hu⟩) (fun c hc ne => US c hc ne) (h.rch hj kj) (by omega) (by omega)
  intro e
  have:=(h.dir hc hu).1
  rw [e,zbf,ki] at this
  cases this
 ·refine zmq hi' h.sing ?_
  exact List.Sublist.refl _
theorem yade {ws:List Ino} {ps:List Den} (h:Img ws ps) {i k:Nat} {d:Int} {nm:ByteArray} (hk:k < 24) (ci:(zau ps k).child = (i:Int))
  (hd:0 ≤ d ∧ d ≤ 15) (dd:zai ws d = 2) (hn:nmB nm = true) (new:∀ j,j < 24 → 0 ≤ (zau ps j).child → (zau ps j).dir = d → ¬ (zau ps j).name = nm)
  (loop:¬ (zai ws (i:Int) = 2 ∧ zgj ps 17 d (i:Int) = true)) :
  Img ws (ps.set k ⟨d,nm,(i:Int)⟩):=by
 have hk':k < ps.length:=by rw [h.l24]; exact hk
 have ek:zhi ws (zau ps k):=by
  rcases h.ent k hk with q | q
  ·rw [q] at ci
   have:(-1:Int) = (i:Int):=ci
   omega
  ·exact q
 have hi:i < 16:=by have:=ek.1; omega
 have i0:¬ i = 0:=by have:=ek.1; omega
 have entn:∀ j,j < 24 → zau (ps.set k ⟨d,nm,(i:Int)⟩) j = freeD ∨ zhi ws (zau (ps.set k ⟨d,nm,(i:Int)⟩) j):=by
  intro j hj
  rw [zbb hk']
  by_cases e:j = k
  ·rw [if_pos e]
   right
   refine ⟨⟨by show 1 ≤ (i:Int); omega,by show (i:Int) ≤ 15; omega⟩,hd,hn,?_,dd⟩
   show ¬ zai ws (i:Int) = 0
   rw [← ci]
   exact ek.2.2.2.1
  ·rw [if_neg e]; exact h.ent j hj
 have entn':∀ j,j < (ps.set k ⟨d,nm,(i:Int)⟩).length → zau (ps.set k ⟨d,nm,(i:Int)⟩) j = freeD ∨ zhi ws (zau (ps.set k ⟨d,nm,(i:Int)⟩) j):=fun j hj => entn j (by rw [List.length_set,h.l24] at hj; exact hj)
 have US:∀ c,0 ≤ c → ¬ c = (i:Int) → upD (ps.set k ⟨d,nm,(i:Int)⟩) c = upD ps c:=by
  intro c hc ne
  refine zse (by simp) ?_
  intro j hj
  rw [zbb hk']
  by_cases e:j = k
  ·rw [if_pos e]
   right
   refine ⟨fun q => ne q.symm,?_⟩
   rw [e,ci]
   exact fun q => ne q.symm
  ·rw [if_neg e]; exact .inl rfl
 have CN:∀ c:Int,zje (ps.set k ⟨d,nm,(i:Int)⟩) c = zje ps c:=by
  intro c
  have a:=zgp ps k ⟨d,nm,(i:Int)⟩ c hk'
  rw [ci] at a
  have b:(if (i:Int) = c then (1:Nat) else 0) = (if (Den.mk d nm (i:Int)).child = c then 1 else 0):=rfl
  omega
 have ALL:∀ c,Rch ps c → 0 ≤ c → zai ws c = 2 → Rch (ps.set k ⟨d,nm,(i:Int)⟩) c:=by
  by_cases ki:zai ws (i:Int) = 2
  ·have nb:zgj ps 17 d (i:Int) = false:=by
    cases q:zgj ps 17 d (i:Int) with
    | false => rfl
    | true => exact absurd ⟨ki,q⟩ loop
   have UI:upD (ps.set k ⟨d,nm,(i:Int)⟩) (i:Int) = d:=by
    have one:zje ps (i:Int) = 1:=by
     have l:=h.links i hi
     rw [if_neg i0,(zhx (h.ok i hi) (by rw [← zbf]; exact ki)).1] at l
     omega
    have q:=yajq (ps:=ps.set k ⟨d,nm,(i:Int)⟩) (c:=(i:Int)) (k:=k) (by rw [List.length_set]; exact hk') (by rw [zbb hk',if_pos rfl]) (fun j hj e => by
     rw [List.length_set] at hj
     rw [zbb hk'] at e
     by_cases ej:j = k
     ·exact ej
     ·rw [if_neg ej] at e
      exact yahs one hj hk' e ci)
    rw [q,zbb hk',if_pos rfl]
   obtain ⟨dn,rfl⟩:∃ n:Nat,d = (n:Int):=⟨d.toNat,by omega⟩
   have rd:Rch (ps.set k ⟨(dn:Int),nm,(i:Int)⟩) (dn:Int):=zqt US 16 _ (h.hang dn (by omega) (by rw [← zbf]; exact dd)) (by omega) nb
   have ri:Rch (ps.set k ⟨(dn:Int),nm,(i:Int)⟩) (i:Int):=zkd (by rw [UI]; omega) (by rw [UI]; exact rd)
   intro c hr hc _
   have:0 ≤ c → Rch (ps.set k ⟨(dn:Int),nm,(i:Int)⟩) c:=by
    refine yagg (P:=fun c => 0 ≤ c → Rch (ps.set k ⟨(dn:Int),nm,(i:Int)⟩) c) hr (fun _ => zrh _) ?_
    intro c c0 cu ih hc
    by_cases e:c = (i:Int)
    ·rw [e]; exact ri
    ·have u:=US c hc e
     refine zkd (by rw [u]; exact cu) ?_
     rw [u]
     exact ih cu
   exact this hc
  ·intro c hr hc kc
   refine zms (G:=fun c => 0 ≤ c) (i:=(i:Int)) (fun c hc hu => ⟨?_,hu⟩) (fun c hc ne => US c hc ne) hr hc (fun e => ki (by rw [← e]; exact kc))
   intro e
   have:=(h.dir hc hu).1
   rw [e] at this
   exact ki this
 refine ⟨h.l16,by rw [List.length_set]; exact h.l24,h.root,h.ok,entn,?_,?_,?_,h.sing⟩
 ·intro j l hj hl cj cl ed en
  rw [zbb hk'] at cj ed en
  rw [zbb hk' _ l] at cl ed en
  by_cases e1:j = k
  ·by_cases e2:l = k
   ·omega
   ·rw [if_pos e1,if_neg e2] at ed en
    rw [if_neg e2] at cl
    exact absurd en.symm (new l hl cl ed.symm)
  ·by_cases e2:l = k
   ·rw [if_neg e1,if_pos e2] at ed en
    rw [if_neg e1] at cj
    exact absurd en (new j hj cj ed)
   ·rw [if_neg e1,if_neg e2] at ed en
    rw [if_neg e1] at cj
    rw [if_neg e2] at cl
    exact h.once j l hj hl cj cl ed en
 ·intro j hj
  rw [CN]
  exact h.links j hj
 ·intro j hj kj
  refine zmw ?_ ⟨by omega,by omega⟩ (yanm entn')
  exact ALL _ (h.rch hj kj) (by omega) (by rw [zbf]; exact kj)
def inoM (kind size links:Int) (zs:List Int):Ino:=⟨kind,size,links,zs.getD 0 0,zs.getD 1 0,zs.getD 2 0,zs.getD 3 0,zs.getD 4 0,zs.getD 5 0,zs.getD 6 0,zs.getD 7 0⟩
theorem zmh {kind size links:Int} {zs:List Int} (h:zs.length = 8):(inoM kind size links zs).map = zs:=by
 match zs,h with
 | [a,b,c,d,e,f,g,i],_ => rfl
theorem zwc {ws:List Ino} {ps:List Den} (h:Img ws ps) {i:Nat} {x:Ino} (hi:i < 16) (kx:x.kind = (zan ws i).kind) (lx:x.links = (zan ws i).links) (ox:zdy x = true) (sx:(zap (ws.set i x)).Pairwise fun x y => x ≠ y) :
  Img (ws.set i x) ps:=by
 have hi':i < ws.length:=by rw [h.l16]; exact hi
 have KA:∀ c,0 ≤ c → zai (ws.set i x) c = zai ws c:=by
  intro c hc
  rw [zmm hi' _ c hc]
  by_cases e:c = (i:Int)
  ·rw [if_pos e,e,zbf,kx]
  ·rw [if_neg e]
 refine ⟨by rw [List.length_set]; exact h.l16,h.l24,?_,?_,?_,h.once,?_,?_,sx⟩
 ·rw [KA 0 (by omega)]; exact h.root
 ·intro j hj
  rw [zcq hi']
  by_cases e:j = i
  ·rw [if_pos e]; exact ox
  ·rw [if_neg e]; exact h.ok j hj
 ·intro k hk
  rcases h.ent k hk with q | q
  ·exact .inl q
  ·obtain ⟨q1,q2,q3,q4,q5⟩:=q
   exact .inr ⟨q1,q2,q3,by rw [KA _ (by omega)]; exact q4,by rw [KA _ q2.1]; exact q5⟩
 ·intro j hj
  rw [zcq hi']
  by_cases e:j = i
  ·rw [if_pos e,lx,← e]; exact h.links j hj
  ·rw [if_neg e]; exact h.links j hj
 ·intro j hj kj
  rw [zcq hi'] at kj
  by_cases e:j = i
  ·rw [if_pos e,kx,← e] at kj; exact h.hang j hj kj
  ·rw [if_neg e] at kj; exact h.hang j hj kj
theorem yafo {l:List Int} {p:Nat} {e:Int} (hp:p < l.length) (he:¬ e = 0):zdg (l.set p e) = zdg (l.take p) ++ [e] ++ zdg (l.drop (p + 1)):=by
 unfold zdg
 rw [List.set_eq_take_append_cons_drop,if_pos hp,List.filter_append,List.filter_cons,if_pos (by simpa using he),List.append_assoc]
 rfl
theorem zzd {l:List Int} {p:Nat} (hp:p < l.length):(zdg (l.take p) ++ zdg (l.drop (p + 1))).Sublist (zdg l):=by
 unfold zdg
 rw [← List.filter_append]
 apply List.Sublist.filter
 have:l = l.take p ++ (l[p] :: l.drop (p + 1)):=by rw [← List.drop_eq_getElem_cons hp,List.take_append_drop]
 conv => rhs; rw [this]
 exact List.Sublist.append (List.Sublist.refl _) (List.sublist_cons_self _ _)
theorem yapa {ws:List Ino} {i p:Nat} {e:Int} {x:Ino} (hi:i < ws.length) (hp:p < 8) (he:¬ e = 0) (s:(zap ws).Pairwise fun x y => x ≠ y) (new:¬ e ∈ zap ws) (hx:x.map = (zan ws i).map.set p e):(zap (ws.set i x)).Pairwise fun x y => x ≠ y:=by
 have hl:p < (zan ws i).map.length:=hp
 rw [zle hi,hx,yafo hl he]
 rw [zlw hi] at s new
 have sub:(zap (ws.take i) ++ (zdg ((zan ws i).map.take p) ++ zdg ((zan ws i).map.drop (p + 1))) ++ zap (ws.drop (i + 1))).Sublist (zap (ws.take i) ++ zdg (zan ws i).map ++ zap (ws.drop (i + 1))) :=
  List.Sublist.append (List.Sublist.append (List.Sublist.refl _) (zzd hl)) (List.Sublist.refl _)
 have s2:=s.sublist sub
 have new2:¬ e ∈ zap (ws.take i) ++ (zdg ((zan ws i).map.take p) ++ zdg ((zan ws i).map.drop (p + 1))) ++ zap (ws.drop (i + 1)):=fun q => new (sub.subset q)
 generalize zap (ws.take i) = A at *
 generalize zdg ((zan ws i).map.take p) = P at *
 generalize zdg ((zan ws i).map.drop (p + 1)) = Q at *
 generalize zap (ws.drop (i + 1)) = B at *
 have e1:A ++ (P ++ [e] ++ Q) ++ B = (A ++ P) ++ e :: (Q ++ B):=by simp
 have e2:A ++ (P ++ Q) ++ B = (A ++ P) ++ (Q ++ B):=by simp
 rw [e2] at s2 new2
 rw [e1]
 rw [List.pairwise_append] at s2 ⊢
 refine ⟨s2.1,?_,?_⟩
 ·rw [List.pairwise_cons]
  exact ⟨fun y hy q => new2 (by rw [List.mem_append]; right; rw [q]; exact hy),s2.2.1⟩
 ·intro a ha b hb
  rw [List.mem_cons] at hb
  rcases hb with rfl | hb
  ·intro q
   exact new2 (by rw [List.mem_append]; left; rw [← q]; exact ha)
  ·exact s2.2.2 a ha b hb
theorem yaqz (x:Ino):x.map.length = 8:=rfl
theorem yaup {x:Ino} {p:Nat} {e sz:Int} (h:zdy x = true) (k:x.kind = 1) (hp:p < 8) (te:zet e = true) (sx:x.size ≤ sz) (s8:sz ≤ 8) (ps:(p:Int) < sz):zdy (inoM x.kind sz x.links (x.map.set p e)) = true:=by
 obtain ⟨a,b,c,d,f⟩:=zcp h
 refine zzl a ⟨by show 0 ≤ sz; omega,s8⟩ c ?_ ?_
 ·rw [zmh (by rw [List.length_set]; rfl)]
  apply zsf
  intro j hj
  have q:=zjd d j hj
  show zqr j ((x.map.set p e).getD j 0) sz = true
  rw [List.getD_eq_getElem?_getD,List.getElem?_set]
  by_cases e1:p = j
  ·subst e1
   rw [if_pos rfl,if_pos (by rw [yaqz]; exact hp)]
   show zqr p e sz = true
   unfold zqr
   rw [te,decide_eq_true ps]
   simp
  ·rw [if_neg e1]
   unfold zqr at q ⊢
   rw [List.getD_eq_getElem?_getD] at q
   rw [Bool.and_eq_true,Bool.or_eq_true] at q ⊢
   refine ⟨q.1,?_⟩
   rcases q.2 with r | r
   ·exact .inl r
   ·right
    have:(j:Int) < x.size:=by simpa using r
    simp only [decide_eq_true_eq]
    omega
 ·unfold zfb at f ⊢
  rw [if_neg (by omega),if_neg (by omega)] at f
  rw [if_neg (by show ¬ x.kind = 0; omega),if_neg (by show ¬ x.kind = 2; omega)]
  exact f
theorem yafj {ws:List Ino} {ps:List Den} (h:Img ws ps) {i p:Nat} {e sz:Int} (hi:i < 16) (k:(zan ws i).kind = 1) (hp:p < 8) (te:zet e = true) (he:¬ e = 0) (new:¬ e ∈ zap ws) (hsz:sz = if (p:Int) < (zan ws i).size then (zan ws i).size else (p:Int) + 1) :
  Img (ws.set i (inoM (zan ws i).kind sz (zan ws i).links ((zan ws i).map.set p e))) ps:=by
 have o:=zcp (h.ok i hi)
 refine zwc h hi rfl rfl (yaup (h.ok i hi) k hp te ?_ ?_ ?_) (yapa (by rw [h.l16]; exact hi) hp he h.sing new (zmh (by rw [List.length_set]; rfl)))
 ·rw [hsz]; split <;> omega
 ·rw [hsz]; split <;> omega
 ·rw [hsz]; split <;> omega
theorem yaig {x:Ino} (h:zdy x = true) {p:Nat} (hp:p < 8) (e:¬ x.map.getD p 0 = 0):(p:Int) < x.size ∧ x.kind = 1:=by
 obtain ⟨a,b,c,d,f⟩:=zcp h
 have q:=zjd d p hp
 unfold zqr at q
 rw [Bool.and_eq_true,Bool.or_eq_true,beq_iff_eq,decide_eq_true_eq] at q
 have s:(p:Int) < x.size:=by
  rcases q.2 with r | r
  ·exact absurd r e
  ·exact r
 refine ⟨s,?_⟩
 unfold zfb at f
 by_cases k0:x.kind = 0
 ·rw [if_pos k0] at f
  have:=(of_decide_eq_true f).1
  omega
 ·by_cases k2:x.kind = 2
  ·rw [if_neg k0,if_pos k2] at f
   rw [Bool.and_eq_true,beq_iff_eq] at f
   omega
  ·omega
def cutM (zs:List Int) (n:Nat):List Int:=(List.range 8).map fun j => if j < n then zs.getD j 0 else 0
theorem yabe (zs:List Int) (n:Nat):(cutM zs n).length = 8:=by simp [cutM]
theorem yagl (zs:List Int) (n j:Nat) (hj:j < 8):(cutM zs n).getD j 0 = if j < n then zs.getD j 0 else 0:=by
 unfold cutM
 rw [List.getD_eq_getElem?_getD,List.getElem?_map,List.getElem?_range hj]
 rfl
theorem yavr {x:Ino} {n:Nat} (h:zdy x = true) (k:x.kind = 1) (hn:n ≤ 8):zdy (inoM x.kind (n:Int) x.links (cutM x.map n)) = true:=by
 obtain ⟨a,b,c,d,f⟩:=zcp h
 refine zzl a ⟨by show 0 ≤ (n:Int); omega,by show (n:Int) ≤ 8; omega⟩ c ?_ ?_
 ·rw [zmh (yabe _ _)]
  apply zsf
  intro j hj
  have q:=zjd d j hj
  show zqr j ((cutM x.map n).getD j 0) (n:Int) = true
  rw [yagl _ _ _ hj]
  unfold zqr at q ⊢
  by_cases e1:j < n
  ·rw [if_pos e1]
   rw [Bool.and_eq_true] at q ⊢
   refine ⟨q.1,?_⟩
   rw [decide_eq_true (show (j:Int) < (n:Int) by omega)]
   simp
  ·rw [if_neg e1]
   rfl
 ·unfold zfb at f ⊢
  rw [if_neg (by omega),if_neg (by omega)] at f
  rw [if_neg (by show ¬ x.kind = 0; omega),if_neg (by show ¬ x.kind = 2; omega)]
  exact f
theorem yapj (x:Ino) (n:Nat):(zdg (cutM x.map n)).Sublist (zdg x.map):=by
 have e:x.map = (List.range 8).map fun j => x.map.getD j 0:=rfl
 have gen:∀ (l:List Nat),(zdg (l.map fun j => if j < n then x.map.getD j 0 else 0)).Sublist (zdg (l.map fun j => x.map.getD j 0)):=by
  intro l
  unfold zdg
  induction l with
  | nil => exact List.Sublist.refl _
  | cons a l ih =>
   rw [List.map_cons,List.map_cons]
   by_cases q:a < n
   ·rw [if_pos q,List.filter_cons,List.filter_cons]
    split
    ·exact ih.cons_cons _
    ·exact ih
   ·rw [if_neg q,List.filter_cons,if_neg (by decide),List.filter_cons]
    split
    ·exact ih.cons _
    ·exact ih
 have:=gen (List.range 8)
 rw [← e] at this
 exact this
theorem yase {ws:List Ino} {ps:List Den} (h:Img ws ps) {i n:Nat} (hi:i < 16) (k:(zan ws i).kind = 1) (hn:n ≤ 8) :
  Img (ws.set i (inoM (zan ws i).kind (n:Int) (zan ws i).links (cutM (zan ws i).map n))) ps:=by
 refine zwc h hi rfl rfl (yavr (h.ok i hi) k hn) (zmq (by rw [h.l16]; exact hi) h.sing ?_)
 rw [zmh (yabe _ _)]
 exact yapj _ _
def RdPm (w:World) (v:Value) (ws:List Int) (ps:List St):Prop:=∃ vW vP,v = .agg #[vW,vP] ∧ RdI w vW ws ∧ RdS w vP ps
def RowPm (w:World) (lo hi:Nat) (v:Value) (ws:List Int) (ps:List St):Prop:=∃ vW vP,v = .agg #[vW,vP] ∧ Row w 3 1 lo hi vW ws.length (zdh ws) ∧ Row w 114 3 lo hi vP ps.length (sts ps)
theorem RowPm.rd {w:World} {lo hi:Nat} {v:Value} {ws:List Int} {ps:List St} (h:RowPm w lo hi v ws ps):RdPm w v ws ps:=by
 obtain ⟨vW,vP,rfl,h1,h2⟩:=h
 exact ⟨vW,vP,rfl,h1.rd,h2.rd⟩
theorem RdPm.below {w w':World} {v:Value} {ws:List Int} {ps:List St} (h:RdPm w v ws ps) (hb:Below w.heap.size w w'):RdPm w' v ws ps:=by
 obtain ⟨vW,vP,rfl,h1,h2⟩:=h
 exact ⟨vW,vP,rfl,Rd.below h1 hb,Rd.below h2 hb⟩
theorem RowPm.below {w w':World} {lo hi:Nat} {v:Value} {ws:List Int} {ps:List St} (h:RowPm w lo hi v ws ps) {B:Nat} (hb:Below B w w') (hB:hi ≤ B):RowPm w' lo hi v ws ps:=by
 obtain ⟨vW,vP,rfl,h1,h2⟩:=h
 exact ⟨vW,vP,rfl,h1.below hb hB,h2.below hb hB⟩
theorem RowPm.outside {w w':World} {lo hi:Nat} {v:Value} {ws:List Int} {ps:List St} (h:RowPm w lo hi v ws ps) {lo' hi':Nat} (ho:Outside lo' hi' w w') (hd:hi ≤ lo' ∨ hi' ≤ lo) (hz:hi ≤ w.heap.size):RowPm w' lo hi v ws ps:=by
 obtain ⟨vW,vP,rfl,h1,h2⟩:=h
 exact ⟨vW,vP,rfl,h1.outside ho hd hz,h2.outside ho hd hz⟩
def pmB (ws:List Int) (ps:List St):Bool:=decide (ws.length = 336 ∧ ps.length ≤ 400 ∧ (∀ k (h:k < ws.length),zbd ws[k] = true) ∧ ∀ k (h:k < ps.length),zcx ps[k].at_ = true ∧ zbd ps[k].val = true)
theorem yaqb {ws:List Int} {ps:List St} (h1:ws.length = 336) (h2:ps.length ≤ 400) (h3:∀ k (h:k < ws.length),zbd ws[k] = true) (h4:∀ k (h:k < ps.length),zcx ps[k].at_ = true ∧ zbd ps[k].val = true):pmB ws ps = true:=decide_eq_true ⟨h1,h2,h3,h4⟩
theorem zes {ws:List Int} {ps:List St} (h:pmB ws ps = true):ws.length = 336 ∧ ps.length ≤ 400:=⟨(of_decide_eq_true h).1,(of_decide_eq_true h).2.1⟩
theorem yabr {ws:List Int} {ps:List St} (h:pmB ws ps = true) (k:Nat) (hk:k < ws.length):zbd ws[k] = true:=(of_decide_eq_true h).2.2.1 k hk
theorem zkj {ws:List Int} {ps:List St} (h:pmB ws ps = true) (k:Nat) (hk:k < ps.length):zcx ps[k].at_ = true ∧ zbd ps[k].val = true:=(of_decide_eq_true h).2.2.2 k hk
theorem yaon {ws:List Int} {ps:List St} (h:¬ ws.length = 336):pmB ws ps = false:=decide_eq_false (fun x => h x.1)
theorem yanf {ws:List Int} {ps:List St} (h:400 < ps.length):pmB ws ps = false:=decide_eq_false (fun x => absurd x.2.1 (by omega))
theorem yaxl {ws:List Int} {ps:List St} {k:Nat} (hk:k < ws.length) (h:zbd ws[k] = false):pmB ws ps = false:=decide_eq_false (fun x => by have:=x.2.2.1 k hk; rw [h] at this; cases this)
theorem yawv {ws:List Int} {ps:List St} {k:Nat} (hk:k < ps.length) (h:zcx ps[k].at_ = false):pmB ws ps = false:=decide_eq_false (fun x => by have:=(x.2.2.2 k hk).1; rw [h] at this; cases this)
theorem yawr {ws:List Int} {ps:List St} {k:Nat} (hk:k < ps.length) (h:zbd ps[k].val = false):pmB ws ps = false:=decide_eq_false (fun x => by have:=(x.2.2.2 k hk).2; rw [h] at this; cases this)
set_option maxHeartbeats 2000000 in
theorem zda (v:Value) (zs:List Int) (w:World) (h:RdI w v zs) (hn:zs.length ≤ 2147483648) :
  Calls Tryz.prog 79 #[v,.func (.func 80) #[] #[]] w fun e w' => e = .returned (.bool (zis zs)) ∧ w' = w:=by
 obtain ⟨ao,cap,rfl,_,hc⟩:=h.shape
 clear h
 go_enter Tryz.func79,Tryz.ntmps79
 go_wp2
 go_loop [6,9] (fun _ i => ∃ k:Nat,k ≤ zs.length ∧ i = .int .i64 k ∧ Hid (∀ j (h:j < zs.length),j < k → zbd zs[j] = true)) (fun _ i => zs.length - (intOf i).toNat)
 case atStart => exact ⟨0,by omega,rfl,fun j h a => absurd a (by omega)⟩
 case round =>
  obtain ⟨k,hk,rfl,H⟩:=hrel
  by_cases hlt:k < zs.length
  ·obtain ⟨b,o,rfl,hbl,hcell⟩:=hc (by omega)
   have hck:=hcell k hlt
   clear hcell hc
   by_cases q:zbd zs[k] = true
   ·go_wp2_with (go_at_call 80; refine (zgd _ _).mono ?_; rintro e w' ⟨rfl,rfl⟩)
    go_round
    case rel =>
     refine ⟨k + 1,by omega,by go_num,fun j h a => ?_⟩
     by_cases e:j = k
     ·subst e; exact q
     ·exact H.out j h (by omega)
    case measure => simp [intOf]; omega
   ·have q':zbd zs[k] = false:=by simpa using q
    have E:=zaa (yadu hlt q')
    go_wp2_with (go_at_call 80; refine (zgd _ _).mono ?_; rintro e w' ⟨rfl,rfl⟩)
    go_ret
    exact ⟨zag E.out.symm,rfl⟩
  ·have E:=zaa (zue (fun j h => H.out j h (by omega)))
   clear H
   go_wp2
   go_ret
   exact ⟨zag E.out.symm,rfl⟩
def stB (s:St):Bool:=zcx s.at_ && zbd s.val
theorem yamq {s:St} (h:stB s = true):zcx s.at_ = true ∧ zbd s.val = true:=by unfold stB at h; simpa using h
theorem yail {s:St} {p:Prop} (h:stB s = false) (h1:zcx s.at_ = false → p) (h2:zbd s.val = false → p):p:=by
 unfold stB at h
 rw [Bool.and_eq_false_iff] at h
 exact h.elim h1 h2
def stsB (ps:List St):Bool:=decide (∀ k (h:k < ps.length),stB ps[k] = true)
theorem yako {ps:List St} (h:stsB ps = true):∀ k (h:k < ps.length),stB ps[k] = true:=of_decide_eq_true h
theorem yaio {ps:List St} (h:∀ k (h:k < ps.length),stB ps[k] = true):stsB ps = true:=decide_eq_true h
theorem yamm {ps:List St} {k:Nat} (hk:k < ps.length) (h:stB ps[k] = false):stsB ps = false:=decide_eq_false (fun x => by have:=x k hk; rw [h] at this; cases this)
theorem yasp {ps:List St} (h:stsB ps = false):∃ k,∃ h:k < ps.length,stB ps[k] = false:=by
 apply Classical.byContradiction
 intro hn
 have:stsB ps = true:=yaio (fun k hk => by
  cases e:stB ps[k] with
  | true => rfl
  | false => exact absurd ⟨k,hk,e⟩ hn)
 rw [h] at this
 cases this
set_option maxHeartbeats 1000000 in
theorem zns (s:St) (w:World):Calls Tryz.prog 82 #[.agg #[.int .i64 s.at_,.int .i64 s.val,.bool s.fl]] w fun e w' => e = .returned (.bool (stB s)) ∧ Below w.heap.size w w':=by
 have hb0:Below w.heap.size w (w.alloc (.cells #[.int .i64 s.at_,.int .i64 s.val,.bool s.fl] 114)):=(Below.refl _ _).alloc (Nat.le_refl _) _
 by_cases q:zcx s.at_ = true
 ·have E:=zaa (show stB s = zbd s.val by unfold stB; rw [q]; rfl)
  have Q:=zaa q
  clear q
  go_enter Tryz.func82,Tryz.ntmps82
  go_wp2_with (first | (go_at_call 83; refine (zdl _ _).mono ?_; rw [Q.out]; rintro e w' ⟨rfl,rfl⟩) | (go_at_call 80; refine (zgd _ _).mono ?_; rintro e w' ⟨rfl,rfl⟩))
  go_ret
  exact ⟨zag E.out.symm,hb0⟩
 ·have q':zcx s.at_ = false:=by simpa using q
  have E:=zaa (show stB s = false by unfold stB; rw [q']; rfl)
  have Q:=zaa q'
  clear q q'
  go_enter Tryz.func82,Tryz.ntmps82
  go_wp2_with (go_at_call 83; refine (zdl _ _).mono ?_; rw [Q.out]; rintro e w' ⟨rfl,rfl⟩)
  go_ret
  exact ⟨zag E.out.symm,hb0⟩
set_option maxHeartbeats 4000000 in
theorem zir (v:Value) (ps:List St) (w:World) (h:RdS w v ps) (hn:ps.length ≤ 1048576) :
  Calls Tryz.prog 81 #[v,.func (.func 82) #[] #[]] w fun e w' => e = .returned (.bool (stsB ps)) ∧ Below w.heap.size w w':=by
 obtain ⟨aP,cP,rfl,_,hcP⟩:=h.shape
 clear h
 go_enter Tryz.func81,Tryz.ntmps81
 go_wp2
 go_loopw [6,9] (fun _ i wr => ∃ k:Nat,k ≤ ps.length ∧ i = .int .i64 k ∧ Hid (∀ j (h:j < ps.length),j < k → stB ps[j] = true) ∧ Below w.heap.size w wr) (fun _ i _ => ps.length - (intOf i).toNat)
 case atStart => exact ⟨0,by omega,rfl,fun j h a => absurd a (by omega),Below.refl _ _⟩
 case round =>
  obtain ⟨m,hm,rfl,H,hbw⟩:=hrel
  have hz:=hbw.size
  by_cases hlt2:m < ps.length
  ·obtain ⟨b2,o2,rfl,hbl2,hcell2⟩:=hcP (by omega)
   obtain ⟨d0,d1,d2⟩:=hcell2 m hlt2
   have e0:=(hbw.cell (p:=⟨b2,o2 + m * 3,none⟩) hbl2).trans d0
   have e1:=(hbw.cell (p:=⟨b2,o2 + m * 3 + 1,none⟩) hbl2).trans d1
   have e2:=(hbw.cell (p:=⟨b2,o2 + m * 3 + 2,none⟩) hbl2).trans d2
   have hb1:=zaa (hbw.alloc hz (.cells #[.int .i64 ps[m].at_,.int .i64 ps[m].val,.bool ps[m].fl] 114))
   clear d0 d1 d2 hcell2 hcP
   by_cases q:stB ps[m] = true
   ·have Q:=zaa q
    clear q
    go_wp2_with (go_at_call 82; refine (zns ps[m] _).mono ?_; rw [Q.out]; rintro e w' ⟨rfl,hw'⟩)
    have hw2:=hb1.out.trans (hw'.mono (by simp; omega))
    clear hb1 hw'
    go_roundw
    case rel =>
     refine ⟨m + 1,by omega,by go_num,fun j h a => ?_,hw2⟩
     by_cases e:j = m
     ·subst e; exact Q.out
     ·exact H.out j h (by omega)
    case measure => simp [intOf]; omega
   ·have Q:=zaa (show stB ps[m] = false by simpa using q)
    have E:=zaa (yamm hlt2 Q.out)
    clear q
    go_wp2_with (go_at_call 82; refine (zns ps[m] _).mono ?_; rw [Q.out]; rintro e w' ⟨rfl,hw'⟩)
    have hw2:=hb1.out.trans (hw'.mono (by simp; omega))
    go_ret
    exact ⟨zag E.out.symm,hw2⟩
  ·have E:=zaa (yaio (fun j h => H.out j h (by omega)))
   go_wp2
   go_ret
   exact ⟨zag E.out.symm,hbw⟩
set_option maxHeartbeats 4000000 in
theorem zdn (v:Value) (ws:List Int) (ps:List St) (w:World) (h:RdPm w v ws ps) (hw:ws.length ≤ 1048576) (hp:ps.length ≤ 1048576) :
  Calls Tryz.prog 34 #[v] w fun e w' => e = .returned (.bool (pmB ws ps)) ∧ Below w.heap.size w w':=by
 obtain ⟨vW,vP,rfl,h1,h2⟩:=h
 obtain ⟨aW,cW,rfl,_,hcW⟩:=h1.shape
 obtain ⟨aP,cP,rfl,_,hcP⟩:=h2.shape
 have H1:=zaa h1
 have H2:=zaa h2
 clear h1 h2 hcW hcP
 have hb0:Below w.heap.size w (w.alloc (.cells #[.slice aW ws.length cW,.slice aP ps.length cP] 26)):=(Below.refl _ _).alloc (Nat.le_refl _) _
 have HB:=zaa hb0
 by_cases c1:ws.length = 336
 case neg =>
  have E:=zaa (yaon (ps:=ps) c1)
  have c1':((ws.length:Int) == 336) = false:=by rw [beq_eq_false_iff_ne]; omega
  clear c1
  go_enter Tryz.func34,Tryz.ntmps34
  go_wp2
  go_ret
  exact ⟨zag E.out.symm,HB.out⟩
 have c1n:((ws.length:Int) == 336) = true:=by simp; omega
 have C1:=zaa c1
 clear c1
 by_cases c2:400 < ps.length
 ·have E:=zaa (yanf (ws:=ws) c2)
  have c2':decide ((ps.length:Int) ≤ 400) = false:=by simp; omega
  go_enter Tryz.func34,Tryz.ntmps34
  go_wp2
  go_ret
  exact ⟨zag E.out.symm,HB.out⟩
 by_cases c3:zis ws = true
 case neg =>
  have c3':zis ws = false:=by simpa using c3
  obtain ⟨k,hk,hkf⟩:=zvd c3'
  have E:=zaa (yaxl (ps:=ps) hk hkf)
  have W0:=zaa c3'
  clear c3 c3' hkf hk
  go_enter Tryz.func34,Tryz.ntmps34
  go_wp2_with (go_at_call 79; refine (zda _ ws _ (Rd.below H1.out HB.out) (by omega)).mono ?_; rw [W0.out]; rintro e w' ⟨rfl,rfl⟩)
  go_ret
  exact ⟨zag E.out.symm,HB.out⟩
 have HW:=zaa (znu c3)
 have W1:=zaa c3
 clear c3
 cases c4:stsB ps with
 | true =>
  have E:=zaa (yaqb C1.out (by omega) HW.out (fun j h => yamq (yako c4 j h)))
  have W2:=zaa c4
  clear c4
  go_enter Tryz.func34,Tryz.ntmps34
  go_wp2_with (first | (go_at_call 79; refine (zda _ ws _ (Rd.below H1.out HB.out) (by omega)).mono ?_; rw [W1.out]; rintro e w' ⟨rfl,rfl⟩) | (go_at_call 81; refine (zir _ ps _ (Rd.below H2.out HB.out) (by omega)).mono ?_; rw [W2.out]; rintro e w' ⟨rfl,hw'⟩))
  go_ret
  exact ⟨zag E.out.symm,HB.out.trans (hw'.mono (by simp))⟩
 | false =>
  obtain ⟨k,hk,hkf⟩:=yasp c4
  have E:=zaa (show pmB ws ps = false from yail hkf (yawv (ws:=ws) hk) (yawr (ws:=ws) hk))
  have W2:=zaa c4
  clear c4 hk hkf
  go_enter Tryz.func34,Tryz.ntmps34
  go_wp2_with (first | (go_at_call 79; refine (zda _ ws _ (Rd.below H1.out HB.out) (by omega)).mono ?_; rw [W1.out]; rintro e w' ⟨rfl,rfl⟩) | (go_at_call 81; refine (zir _ ps _ (Rd.below H2.out HB.out) (by omega)).mono ?_; rw [W2.out]; rintro e w' ⟨rfl,hw'⟩))
  go_ret
  exact ⟨zag E.out.symm,HB.out.trans (hw'.mono (by simp))⟩
end Go.Proofs.YtkdjfhkalelafaaGreatDoor
