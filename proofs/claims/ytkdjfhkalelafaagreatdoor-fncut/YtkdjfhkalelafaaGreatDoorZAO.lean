/- Several texts laid together: IgF, IgG, IgH. -/
import Derived.Test.YtkdjfhkalelafaaGreatDoorZAM
import Derived.Test.YtkdjfhkalelafaaGreatDoorZAN
namespace Go.Proofs.YtkdjfhkalelafaaGreatDoor
open Go.RowKit
def zbk (ls:List Int) (us:List Se):List Int:=us.foldl (fun l u => l.set u.at_.toNat u.val) ls
theorem yalp (ls:List Int):zbk ls [] = ls:=rfl
theorem zht (ls:List Int) (u:Se) (us:List Se):zbk ls (u :: us) = zbk (ls.set u.at_.toNat u.val) us:=rfl
theorem zkw (ls:List Int) (us vs:List Se):zbk ls (us ++ vs) = zbk (zbk ls us) vs:=by unfold zbk; rw [List.foldl_append]
theorem zdw (us:List Se):∀ (ls:List Int),(zbk ls us).length = ls.length:=by
 induction us with
 | nil => intro ls; rfl
 | cons u us ih => intro ls; rw [zht,ih,List.length_set]
theorem zee {ls:List Int} {a z v:Int} (ha:0 ≤ a) (hl:a < (ls.length:Int)) (hz:0 ≤ z):wdI (ls.set a.toNat v) z = if z = a then v else wdI ls z:=by
 unfold wdI
 rw [List.getD_eq_getElem?_getD,List.getD_eq_getElem?_getD,List.getElem?_set]
 by_cases e:z = a
 ·rw [if_pos e,e,if_pos rfl,if_pos (by omega)]; rfl
 ·rw [if_neg e,if_neg (by omega)]
theorem zfh {z:Int} (hz:0 ≤ z):∀ (us:List Se) (ls:List Int),(∀ u ∈ us,0 ≤ u.at_ ∧ u.at_ < (ls.length:Int) ∧ ¬ u.at_ = z) → wdI (zbk ls us) z = wdI ls z:=by
 intro us
 induction us with
 | nil => intro ls _; rfl
 | cons u us ih =>
  intro ls h
  rw [zht,ih _ (fun v hv => by rw [List.length_set]; exact h v (List.mem_cons_of_mem _ hv))]
  obtain ⟨a,b,c⟩:=h u (List.mem_cons_self ..)
  rw [zee a b hz,if_neg (fun e => c e.symm)]
def UpIn (us:List Se):Prop:=∀ u ∈ us,48 ≤ u.at_ ∧ u.at_ < 312
theorem UpIn.app {us vs:List Se} (h:UpIn us) (k:UpIn vs):UpIn (us ++ vs):=fun u hu => by
 rcases List.mem_append.1 hu with q | q
 ·exact h u q
 ·exact k u q
theorem zsr {ls:List Int} {us:List Se} {i:Nat} {x:Ino} (hl:ls.length = 336) (ui:UpIn us) (hi:i < 16) (hx:zdm (zbk ls us) i = x) (ho:∀ j:Nat,j < 16 → ¬ j = i → ∀ u ∈ us,¬ (48 + 12 * (j:Int) ≤ u.at_ ∧ u.at_ < 48 + 12 * (j:Int) + 11)):zbe (zbk ls us) 16 = (zbe ls 16).set i x:=by
 apply List.ext_getElem?
 intro j
 rw [List.getElem?_set]
 unfold zbe
 rw [List.length_map,List.length_range,List.getElem?_map,List.getElem?_map]
 by_cases hj:j < 16
 ·rw [List.getElem?_range hj]
  by_cases e:i = j
  ·rw [if_pos e,if_pos (by omega),← e]
   show some (zdm (zbk ls us) i) = some x
   rw [hx]
  ·rw [if_neg e]
   show some (zdm (zbk ls us) j) = some (zdm ls j)
   have W:∀ z,48 + 12 * (j:Int) ≤ z ∧ z < 48 + 12 * (j:Int) + 11 → wdI (zbk ls us) z = wdI ls z:=fun z hz => zfh (by omega) us ls (fun u hu => by
    have a:=ui u hu
    have b:=ho j hj (fun q => e q.symm) u hu
    refine ⟨by omega,by omega,?_⟩
    intro q
    exact b (by omega))
   unfold zdm
   rw [W _ (by omega),W _ (by omega),W _ (by omega),W _ (by omega),W _ (by omega),W _ (by omega),W _ (by omega),W _ (by omega),W _ (by omega),W _ (by omega),W _ (by omega)]
 ·rw [List.getElem?_eq_none (by simp; omega)]
  by_cases e:i = j
  ·omega
  ·rw [if_neg e]; rfl
theorem zsc {ls:List Int} {us:List Se} {k:Nat} {x:Den} (hl:ls.length = 336) (ui:UpIn us) (hk:k < 24) (hx:zfi (zbk ls us) k = x) (ho:∀ j:Nat,j < 24 → ¬ j = k → ∀ u ∈ us,¬ (240 + 3 * (j:Int) ≤ u.at_ ∧ u.at_ < 240 + 3 * (j:Int) + 3)):zbi (zbk ls us) 24 = (zbi ls 24).set k x:=by
 apply List.ext_getElem?
 intro j
 rw [List.getElem?_set]
 unfold zbi
 rw [List.length_map,List.length_range,List.getElem?_map,List.getElem?_map]
 by_cases hj:j < 24
 ·rw [List.getElem?_range hj]
  by_cases e:k = j
  ·rw [if_pos e,if_pos (by omega),← e]
   show some (zfi (zbk ls us) k) = some x
   rw [hx]
  ·rw [if_neg e]
   show some (zfi (zbk ls us) j) = some (zfi ls j)
   have W:∀ z,240 + 3 * (j:Int) ≤ z ∧ z < 240 + 3 * (j:Int) + 3 → wdI (zbk ls us) z = wdI ls z:=fun z hz => zfh (by omega) us ls (fun u hu => by
    have a:=ui u hu
    have b:=ho j hj (fun q => e q.symm) u hu
    refine ⟨by omega,by omega,?_⟩
    intro q
    exact b (by omega))
   unfold zfi
   rw [W _ (by omega),W _ (by omega),W _ (by omega)]
 ·rw [List.getElem?_eq_none (by simp; omega)]
  by_cases e:k = j
  ·omega
  ·rw [if_neg e]; rfl
theorem yagw {ls:List Int} {us:List Se} (hl:ls.length = 336) (ui:UpIn us) (ho:∀ u ∈ us,u.at_ < 240):zbi (zbk ls us) 24 = zbi ls 24:=by
 have q:=zsc (k:=0) (x:=zfi (zbk ls us) 0) hl ui (by omega) rfl (fun j _ _ u hu => by have:=ho u hu; omega)
 rw [q]
 have W:∀ z,240 ≤ z → wdI (zbk ls us) z = wdI ls z:=fun z hz => zfh (by omega) us ls (fun u hu => by
  have a:=ui u hu
  have b:=ho u hu
  exact ⟨by omega,by omega,by omega⟩)
 have e:zfi (zbk ls us) 0 = zfi ls 0:=by
  unfold zfi
  rw [W _ (by omega),W _ (by omega),W _ (by omega)]
 rw [e]
 rfl
theorem yaif {ls:List Int} {us:List Se} (hl:ls.length = 336) (ui:UpIn us) (ho:∀ u ∈ us,240 ≤ u.at_):zbe (zbk ls us) 16 = zbe ls 16:=by
 have q:=zsr (i:=0) (x:=zdm (zbk ls us) 0) hl ui (by omega) rfl (fun j _ _ u hu => by have:=ho u hu; omega)
 rw [q]
 have W:∀ z,48 ≤ z ∧ z < 240 → wdI (zbk ls us) z = wdI ls z:=fun z hz => zfh (by omega) us ls (fun u hu => by
  have a:=ui u hu
  have b:=ho u hu
  exact ⟨by omega,by omega,by omega⟩)
 have e:zdm (zbk ls us) 0 = zdm ls 0:=by
  unfold zdm
  rw [W _ (by omega),W _ (by omega),W _ (by omega),W _ (by omega),W _ (by omega),W _ (by omega),W _ (by omega),W _ (by omega),W _ (by omega),W _ (by omega),W _ (by omega)]
 rw [e]
 rfl
theorem yabi {ls:List Int} {us:List Se} {k:Nat} (hl:ls.length = 336) (ui:UpIn us) (h:zcm ls 24 = true) (hk:zbs (zbk ls us) k = true) (ho:∀ j:Nat,j < 24 → ¬ j = k → ∀ u ∈ us,¬ (240 + 3 * (j:Int) ≤ u.at_ ∧ u.at_ < 240 + 3 * (j:Int) + 3)):zcm (zbk ls us) 24 = true:=by
 unfold zcm at h
 rw [List.all_eq_true] at h
 refine zhc fun j hj => ?_
 by_cases e:j = k
 ·rw [e]; exact hk
 ·have g:=h j (List.mem_range.2 hj)
  have W:∀ z,240 + 3 * (j:Int) ≤ z ∧ z < 240 + 3 * (j:Int) + 3 → wdI (zbk ls us) z = wdI ls z:=fun z hz => zfh (by omega) us ls (fun u hu => by
   have a:=ui u hu
   have b:=ho j hj e u hu
   refine ⟨by omega,by omega,?_⟩
   intro q
   exact b (by omega))
  unfold zbs at g ⊢
  rw [W _ (by omega),W _ (by omega),W _ (by omega)]
  exact g
theorem yaeh {ls:List Int} {us:List Se} (hl:ls.length = 336) (ui:UpIn us) (h:zcm ls 24 = true) (ho:∀ u ∈ us,u.at_ < 240):zcm (zbk ls us) 24 = true:=by
 unfold zcm at h
 rw [List.all_eq_true] at h
 refine zhc fun j hj => ?_
 have g:=h j (List.mem_range.2 hj)
 have W:∀ z,240 ≤ z → wdI (zbk ls us) z = wdI ls z:=fun z hz => zfh (by omega) us ls (fun u hu => by
  have a:=ui u hu
  have b:=ho u hu
  exact ⟨by omega,by omega,by omega⟩)
 unfold zbs at g ⊢
 rw [W _ (by omega),W _ (by omega),W _ (by omega)]
 exact g
theorem yalr {ls:List Int} {k:Nat} {x:Den} {us:List Se} (hl:ls.length = 336) (hk:k < 24) (ui:UpIn us) (ho:∀ u ∈ us,¬ (240 + 3 * (k:Int) ≤ u.at_ ∧ u.at_ < 240 + 3 * (k:Int) + 3)) :
  wdI (zbk ls (enL (k:Int) x ++ us)) (240 + 3 * (k:Int)) = x.dir ∧ wdI (zbk ls (enL (k:Int) x ++ us)) (240 + 3 * (k:Int) + 1) = ((pk x.name x.name.size:Nat):Int) ∧ wdI (zbk ls (enL (k:Int) x ++ us)) (240 + 3 * (k:Int) + 2) = x.child + 1:=by
 have W:∀ z,240 + 3 * (k:Int) ≤ z ∧ z < 240 + 3 * (k:Int) + 3 → wdI (zbk ls (enL (k:Int) x ++ us)) z = wdI (zbk ls (enL (k:Int) x)) z:=fun z hz => by
  rw [zkw]
  refine zfh (by omega) us _ (fun u hu => ?_)
  have a:=ui u hu
  have b:=ho u hu
  rw [zdw]
  refine ⟨by omega,by omega,?_⟩
  intro q
  exact b (by omega)
 rw [W _ (by omega),W _ (by omega),W _ (by omega)]
 unfold enL
 simp only [zht,yalp]
 have l2:(240 + 3 * (k:Int) + 2) < (336:Int):=by omega
 refine ⟨?_,?_,?_⟩
 ·rw [zee (by omega) (by simp only [List.length_set]; omega) (by omega),if_neg (by omega),zee (by omega) (by simp only [List.length_set]; omega) (by omega),if_neg (by omega),zee (by omega) (by omega) (by omega),if_pos rfl]
 ·rw [zee (by omega) (by simp only [List.length_set]; omega) (by omega),if_neg (by omega),zee (by omega) (by simp only [List.length_set]; omega) (by omega),if_pos rfl]
 ·rw [zee (by omega) (by simp only [List.length_set]; omega) (by omega),if_pos rfl]
theorem zsd {ls:List Int} {k:Nat} {x:Den} {us:List Se} (hl:ls.length = 336) (hk:k < 24) (ui:UpIn us) (ho:∀ u ∈ us,¬ (240 + 3 * (k:Int) ≤ u.at_ ∧ u.at_ < 240 + 3 * (k:Int) + 3)) (hx:x = freeD ∨ (0 ≤ x.child ∧ nmB x.name = true)) :
  zfi (zbk ls (enL (k:Int) x ++ us)) k = x ∧ zbs (zbk ls (enL (k:Int) x ++ us)) k = true:=by
 obtain ⟨a,b,c⟩:=yalr (x:=x) hl hk ui ho
 unfold zfi zbs
 rw [a,b,c]
 rcases hx with rfl | ⟨h0,hn⟩
 ·exact ⟨rfl,rfl⟩
 ·have p:=(zrf hn).1
  obtain ⟨g,s⟩:=yane hn
  rw [p] at g s
  rw [if_neg (by omega),if_neg (by omega),s]
  refine ⟨?_,g⟩
  obtain ⟨d,n,ch⟩:=x
  show Den.mk d n (ch + 1 - 1) = _
  congr 1
  omega
theorem zoe {k:Nat} (hk:k < 24) (x:Den):UpIn (enL (k:Int) x):=fun u hu => by
 simp only [enL,List.mem_cons,List.not_mem_nil,or_false] at hu
 rcases hu with rfl | rfl | rfl
 ·exact ⟨by show 48 ≤ 240 + 3 * (k:Int); omega,by show 240 + 3 * (k:Int) < 312; omega⟩
 ·exact ⟨by show 48 ≤ 240 + 3 * (k:Int) + 1; omega,by show 240 + 3 * (k:Int) + 1 < 312; omega⟩
 ·exact ⟨by show 48 ≤ 240 + 3 * (k:Int) + 2; omega,by show 240 + 3 * (k:Int) + 2 < 312; omega⟩
structure Wi (ls:List Int) (ws:List Ino) (ps:List Den):Prop where
 len:ls.length = 336
 mark:wdI ls 0 = 7
 good:zcm ls 24 = true
 inos:zbe ls 16 = ws
 dens:zbi ls 24 = ps
 img:Img ws ps
theorem Wi.ri {ls:List Int} {ws:List Ino} {ps:List Den} (h:Wi ls ws ps):riB ls = true:=by
 unfold riB
 rw [h.mark,h.good,h.inos,h.dens,zbz.2 h.img]
 rfl
theorem zrp {ls:List Int} {us:List Se} (hl:ls.length = 336) (ui:UpIn us) (h:wdI ls 0 = 7):wdI (zbk ls us) 0 = 7:=by
 rw [zfh (by omega) us ls (fun u hu => by have:=ui u hu; exact ⟨by omega,by omega,by omega⟩)]
 exact h
theorem znp {ls:List Int} {ws:List Ino} {ps:List Den} (h:Wi ls ws ps) {i:Nat} (hi:i < 16):zan ws i = zdm ls i:=by
 rw [← h.inos]
 unfold zan zbe
 rw [List.getD_eq_getElem?_getD,List.getElem?_map,List.getElem?_range hi]
 rfl
def znt (i:Nat) (fs:List (Nat × Int)):List Se:=fs.map fun f => ⟨48 + 12 * (i:Int) + (f.1:Int),f.2⟩
theorem zsg {i:Nat} {fs:List (Nat × Int)} (hi:i < 16) (hf:∀ f ∈ fs,f.1 < 11):UpIn (znt i fs):=fun u hu => by
 obtain ⟨f,hm,rfl⟩:=List.mem_map.1 hu
 have:=hf f hm
 exact ⟨by show 48 ≤ 48 + 12 * (i:Int) + (f.1:Int); omega,by show 48 + 12 * (i:Int) + (f.1:Int) < 312; omega⟩
theorem yaiu {i:Nat} {fs:List (Nat × Int)} (hi:i < 16) (hf:∀ f ∈ fs,f.1 < 11):∀ u ∈ znt i fs,48 + 12 * (i:Int) ≤ u.at_ ∧ u.at_ < 48 + 12 * (i:Int) + 11 ∧ u.at_ < 240:=fun u hu => by
 obtain ⟨f,hm,rfl⟩:=List.mem_map.1 hu
 have:=hf f hm
 exact ⟨by show 48 + 12 * (i:Int) ≤ 48 + 12 * (i:Int) + (f.1:Int); omega,by show 48 + 12 * (i:Int) + (f.1:Int) < 48 + 12 * (i:Int) + 11; omega,by show 48 + 12 * (i:Int) + (f.1:Int) < 240; omega⟩
def zog (fs:List (Nat × Int)) (g:Nat) (z:Int):Int:=fs.foldl (fun a f => if f.1 = g then f.2 else a) z
theorem yasb {i:Nat} (hi:i < 16) {g:Nat} (hg:g < 11):∀ (fs:List (Nat × Int)) (ls:List Int),ls.length = 336 → (∀ f ∈ fs,f.1 < 11) → wdI (zbk ls (znt i fs)) (48 + 12 * (i:Int) + (g:Int)) = zog fs g (wdI ls (48 + 12 * (i:Int) + (g:Int))):=by
 intro fs
 induction fs with
 | nil => intro ls _ _; rfl
 | cons f fs ih =>
  intro ls hl hf
  have h11:=hf f (List.mem_cons_self ..)
  show wdI (zbk (ls.set (48 + 12 * (i:Int) + (f.1:Int)).toNat f.2) (znt i fs)) _ = _
  rw [ih _ (by rw [List.length_set]; exact hl) (fun x hx => hf x (List.mem_cons_of_mem _ hx)),zee (by omega) (by omega) (by omega)]
  unfold zog
  rw [List.foldl_cons]
  by_cases e:f.1 = g
  ·rw [if_pos (by omega),if_pos e]
  ·rw [if_neg (by omega),if_neg e]
def zwe (x:Ino) (fs:List (Nat × Int)):Ino:=⟨zog fs 0 x.kind,zog fs 1 x.size,zog fs 2 x.links,zog fs 3 x.m0,zog fs 4 x.m1,zog fs 5 x.m2,zog fs 6 x.m3,zog fs 7 x.m4,zog fs 8 x.m5,zog fs 9 x.m6,zog fs 10 x.m7⟩
theorem zyt {i:Nat} (hi:i < 16) {fs:List (Nat × Int)} {ls:List Int} (hl:ls.length = 336) (hf:∀ f ∈ fs,f.1 < 11):zdm (zbk ls (znt i fs)) i = zwe (zdm ls i) fs:=by
 have W:=fun g hg => yasb (g:=g) hi hg fs ls hl hf
 have w0:=W 0 (by omega)
 rw [show 48 + 12 * (i:Int) + ((0:Nat):Int) = 48 + 12 * (i:Int) by omega] at w0
 unfold zwe zdm
 rw [w0]
 congr 1
 ·exact W 1 (by omega)
 ·exact W 2 (by omega)
 ·exact W 3 (by omega)
 ·exact W 4 (by omega)
 ·exact W 5 (by omega)
 ·exact W 6 (by omega)
 ·exact W 7 (by omega)
 ·exact W 8 (by omega)
 ·exact W 9 (by omega)
 ·exact W 10 (by omega)
theorem yaaf {ls:List Int} {ws:List Ino} {ps:List Den} (h:Wi ls ws ps) {i k:Nat} (hi:i < 16) (hk:k < 24) {fs:List (Nat × Int)} (hf:∀ f ∈ fs,f.1 < 11) {x:Den} (hx:x = freeD ∨ (0 ≤ x.child ∧ nmB x.name = true)) (img:Img (ws.set i (zwe (zan ws i) fs)) (ps.set k x)) :
  Wi (zbk ls (znt i fs ++ enL (k:Int) x)) (ws.set i (zwe (zan ws i) fs)) (ps.set k x) ∧ Wi (zbk ls (enL (k:Int) x ++ znt i fs)) (ws.set i (zwe (zan ws i) fs)) (ps.set k x):=by
 have iu:=zsg (fs:=fs) hi hf
 have ia:=yaiu (fs:=fs) hi hf
 have eu:=zoe hk x
 have ea:∀ u ∈ enL (k:Int) x,240 + 3 * (k:Int) ≤ u.at_ ∧ u.at_ < 240 + 3 * (k:Int) + 3:=fun u hu => by
  simp only [enL,List.mem_cons,List.not_mem_nil,or_false] at hu
  rcases hu with rfl | rfl | rfl
  ·exact ⟨Int.le_refl _,by show 240 + 3 * (k:Int) < 240 + 3 * (k:Int) + 3; omega⟩
  ·exact ⟨by show 240 + 3 * (k:Int) ≤ 240 + 3 * (k:Int) + 1; omega,by show 240 + 3 * (k:Int) + 1 < 240 + 3 * (k:Int) + 3; omega⟩
  ·exact ⟨by show 240 + 3 * (k:Int) ≤ 240 + 3 * (k:Int) + 2; omega,by show 240 + 3 * (k:Int) + 2 < 240 + 3 * (k:Int) + 3; omega⟩
 have xi:=znp h hi
 have both:∀ us,UpIn us → (∀ u ∈ us,u ∈ znt i fs ∨ u ∈ enL (k:Int) x) → zdm (zbk ls us) i = zwe (zdm ls i) fs → zfi (zbk ls us) k = x → zbs (zbk ls us) k = true → Wi (zbk ls us) (ws.set i (zwe (zan ws i) fs)) (ps.set k x):=by
  intro us ui mem e1 e2 e3
  have oi:∀ j:Nat,j < 16 → ¬ j = i → ∀ u ∈ us,¬ (48 + 12 * (j:Int) ≤ u.at_ ∧ u.at_ < 48 + 12 * (j:Int) + 11):=by
   intro j hj ne u hu
   rcases mem u hu with q | q
   ·have:=ia u q; omega
   ·have:=ea u q; omega
  have ok:∀ j:Nat,j < 24 → ¬ j = k → ∀ u ∈ us,¬ (240 + 3 * (j:Int) ≤ u.at_ ∧ u.at_ < 240 + 3 * (j:Int) + 3):=by
   intro j hj ne u hu
   rcases mem u hu with q | q
   ·have:=ia u q; omega
   ·have:=ea u q; omega
  refine ⟨by rw [zdw]; exact h.len,zrp h.len ui h.mark,yabi h.len ui h.good e3 ok,?_,?_,img⟩
  ·rw [zsr h.len ui hi e1 oi,h.inos,xi]
  ·rw [zsc h.len ui hk e2 ok,h.dens]
 constructor
 ·refine both _ (iu.app eu) (fun u hu => List.mem_append.1 hu) ?_ ?_ ?_
  ·rw [zkw]
   have W:∀ z,48 + 12 * (i:Int) ≤ z ∧ z < 48 + 12 * (i:Int) + 11 → wdI (zbk (zbk ls (znt i fs)) (enL (k:Int) x)) z = wdI (zbk ls (znt i fs)) z:=fun z hz => zfh (by omega) _ _ (fun u hu => by
    have:=ea u hu
    rw [zdw,h.len]
    exact ⟨by omega,by omega,by omega⟩)
   rw [← zyt hi h.len hf]
   unfold zdm
   rw [W _ (by omega),W _ (by omega),W _ (by omega),W _ (by omega),W _ (by omega),W _ (by omega),W _ (by omega),W _ (by omega),W _ (by omega),W _ (by omega),W _ (by omega)]
  ·rw [zkw]
   have:=(zsd (ls:=zbk ls (znt i fs)) (x:=x) (us:=[]) (by rw [zdw]; exact h.len) hk (fun _ q => by cases q) (fun _ q => by cases q) hx).1
   rw [List.append_nil] at this
   exact this
  ·rw [zkw]
   have:=(zsd (ls:=zbk ls (znt i fs)) (x:=x) (us:=[]) (by rw [zdw]; exact h.len) hk (fun _ q => by cases q) (fun _ q => by cases q) hx).2
   rw [List.append_nil] at this
   exact this
 ·have oe:∀ u ∈ znt i fs,¬ (240 + 3 * (k:Int) ≤ u.at_ ∧ u.at_ < 240 + 3 * (k:Int) + 3):=fun u hu => by have:=ia u hu; omega
  have er:=zsd (ls:=ls) (x:=x) (us:=znt i fs) h.len hk iu oe hx
  refine both _ (eu.app iu) (fun u hu => (List.mem_append.1 hu).symm) ?_ er.1 er.2
  rw [zkw,zyt hi (by rw [zdw]; exact h.len) hf]
  have W:∀ z,48 + 12 * (i:Int) ≤ z ∧ z < 48 + 12 * (i:Int) + 11 → wdI (zbk ls (enL (k:Int) x)) z = wdI ls z:=fun z hz => zfh (by omega) _ _ (fun u hu => by
   have:=ea u hu
   rw [h.len]
   exact ⟨by omega,by omega,by omega⟩)
  congr 1
  unfold zdm
  rw [W _ (by omega),W _ (by omega),W _ (by omega),W _ (by omega),W _ (by omega),W _ (by omega),W _ (by omega),W _ (by omega),W _ (by omega),W _ (by omega),W _ (by omega)]
theorem yaps {ls:List Int} {ws:List Ino} {ps:List Den} (h:Wi ls ws ps) {i:Nat} (hi:i < 16) {fs:List (Nat × Int)} (hf:∀ f ∈ fs,f.1 < 11) (img:Img (ws.set i (zwe (zan ws i) fs)) ps) :
  Wi (zbk ls (znt i fs)) (ws.set i (zwe (zan ws i) fs)) ps:=by
 have iu:=zsg (fs:=fs) hi hf
 have ia:=yaiu (fs:=fs) hi hf
 refine ⟨by rw [zdw]; exact h.len,zrp h.len iu h.mark,yaeh h.len iu h.good (fun u hu => (ia u hu).2.2),?_,?_,img⟩
 ·rw [zsr h.len iu hi (zyt hi h.len hf) (fun j _ _ u hu => by have:=ia u hu; omega),h.inos,znp h hi]
 ·rw [yagw h.len iu (fun u hu => (ia u hu).2.2),h.dens]
theorem yauh {ls:List Int} {ws:List Ino} {ps:List Den} (h:Wi ls ws ps) {k:Nat} (hk:k < 24) {x:Den} (hx:x = freeD ∨ (0 ≤ x.child ∧ nmB x.name = true)) (img:Img ws (ps.set k x)) :
  Wi (zbk ls (enL (k:Int) x)) ws (ps.set k x):=by
 have eu:=zoe hk x
 have ea:∀ u ∈ enL (k:Int) x,240 + 3 * (k:Int) ≤ u.at_ ∧ u.at_ < 240 + 3 * (k:Int) + 3:=fun u hu => by
  simp only [enL,List.mem_cons,List.not_mem_nil,or_false] at hu
  rcases hu with rfl | rfl | rfl
  ·exact ⟨Int.le_refl _,by show 240 + 3 * (k:Int) < 240 + 3 * (k:Int) + 3; omega⟩
  ·exact ⟨by show 240 + 3 * (k:Int) ≤ 240 + 3 * (k:Int) + 1; omega,by show 240 + 3 * (k:Int) + 1 < 240 + 3 * (k:Int) + 3; omega⟩
  ·exact ⟨by show 240 + 3 * (k:Int) ≤ 240 + 3 * (k:Int) + 2; omega,by show 240 + 3 * (k:Int) + 2 < 240 + 3 * (k:Int) + 3; omega⟩
 have er:=zsd (ls:=ls) (x:=x) (us:=[]) h.len hk (fun _ q => by cases q) (fun _ q => by cases q) hx
 rw [List.append_nil] at er
 refine ⟨by rw [zdw]; exact h.len,zrp h.len eu h.mark,yabi h.len eu h.good er.2 (fun j _ ne u hu => by have:=ea u hu; omega),?_,?_,img⟩
 ·rw [yaif h.len eu (fun u hu => by have:=ea u hu; omega),h.inos]
 ·rw [zsc h.len eu hk er.1 (fun j _ ne u hu => by have:=ea u hu; omega),h.dens]
theorem zvb {ps:List Den} {k:Nat} (h:k < ps.length):zal ps k = (zau ps k).child:=zyf h
theorem zrs {ws:List Ino} {ps:List Den} (h:Img ws ps) (f:¬ feI ps < 0):∃ k:Nat,feI ps = (k:Int) ∧ k < 24 ∧ zau ps k = freeD:=by
 have hit:=zoi (p:=fun i => decide (zal ps i < 0)) (n:=ps.length) f
 have b:=(zec (fun i => decide (zal ps i < 0)) ps.length).2
 have e:feI ps = zby (fun i => decide (zal ps i < 0)) ps.length:=rfl
 rw [← e] at hit b
 refine ⟨(feI ps).toNat,by omega,by have:=h.l24; omega,?_⟩
 have hk:(feI ps).toNat < ps.length:=by omega
 have c:zal ps (feI ps).toNat < 0:=of_decide_eq_true hit
 rw [zvb hk] at c
 rcases h.ent (feI ps).toNat (by have:=h.l24; omega) with q | q
 ·exact q
 ·have:=q.1; omega
theorem zww {ws:List Ino} {ps:List Den} (h:Img ws ps) (f:¬ fiI ws < 0):∃ i:Nat,fiI ws = (i:Int) ∧ i < 16 ∧ (zan ws i).kind = 0:=by
 have hit:=zoi (p:=fun i => decide (1 ≤ i) && zai ws (i:Int) == 0) (n:=ws.length) f
 have b:=(zec (fun i => decide (1 ≤ i) && zai ws (i:Int) == 0) ws.length).2
 have e:fiI ws = zby (fun i => decide (1 ≤ i) && zai ws (i:Int) == 0) ws.length:=rfl
 rw [← e] at hit b
 refine ⟨(fiI ws).toNat,by omega,by have:=h.l16; omega,?_⟩
 simp only [Bool.and_eq_true,beq_iff_eq] at hit
 rw [← zbf]
 exact hit.2
theorem zya {ps:List Den} (l:ps.length = 24) {d:Int} {nm:ByteArray} (h:zax ps d nm = none):∀ j,j < 24 → 0 ≤ (zau ps j).child → (zau ps j).dir = d → ¬ (zau ps j).name = nm:=by
 intro j hj a b c
 unfold zax at h
 rw [List.findIdx?_eq_none_iff] at h
 have:=h ps[j] (List.getElem_mem (by omega))
 rw [zaz (by omega)] at a b c
 rw [zgz.2 ⟨a,b,c⟩] at this
 cases this
theorem zls {ws:List Ino} {ps:List Den} (h:Img ws ps) {d:Int} {nm:ByteArray} {k:Nat} (e:zax ps d nm = some k):k < 24 ∧ ∃ i:Nat,zal ps k = (i:Int) ∧ (zau ps k).child = (i:Int) ∧ i < 16 ∧ zhi ws (zau ps k) ∧ (zau ps k).dir = d ∧ (zau ps k).name = nm:=by
 obtain ⟨hk,q⟩:=zmv e
 have hk24:k < 24:=by have:=h.l24; omega
 obtain ⟨c,hd,hn⟩:=zgz.1 q
 rw [← zaz hk] at c hd hn
 have ok:zhi ws (zau ps k):=by
  rcases h.ent k hk24 with r | r
  ·rw [r] at c; exact absurd c (by decide)
  ·exact r
 refine ⟨hk24,(zau ps k).child.toNat,?_,by omega,by have:=ok.1; omega,ok,hd,hn⟩
 rw [zvb hk]
 omega
theorem yadr {ps:List Den} (l:ps.length = 24) {d:Int} (h:zbt ps d = []):∀ j,j < 24 → ¬ (0 ≤ (zau ps j).child ∧ (zau ps j).dir = d):=by
 intro j hj
 rintro ⟨a,b⟩
 unfold zbt at h
 rw [List.map_eq_nil_iff,List.filter_eq_nil_iff] at h
 have:=h ps[j] (List.getElem_mem (by omega))
 rw [zaz (by omega)] at a b
 rw [decide_eq_true_eq] at this
 omega
theorem yaiy {ls:List Int} {ws:List Ino} {ps:List Den} {s:ByteArray} {kind:Int} {us:List Se} (h:Wi ls ws ps) (kd:kind = 1 ∨ kind = 2) (e:mkI ws ps s kind = (us,0)) :
  ∃ (i k:Nat) (d:Int) (nm:ByteArray),paI ws ps s = (d,nm,0) ∧ zax ps d nm = none ∧ (i < 16 ∧ 1 ≤ i ∧ (zan ws i).kind = 0) ∧ (k < 24 ∧ zau ps k = freeD) ∧ Wi (zbk ls us) (ws.set i ⟨kind,0,1,0,0,0,0,0,0,0,0⟩) (ps.set k ⟨d,nm,(i:Int)⟩):=by
 unfold mkI at e
 by_cases c:(paI ws ps s).2.2 = 0
 ·rw [if_pos c] at e
  obtain ⟨hd,dd,hn⟩:=zhf (zbz.2 h.img) c
  unfold mkN at e
  by_cases c1:0 ≤ zkf ps (paI ws ps s).1 (paI ws ps s).2.1
  ·rw [if_pos c1] at e; cases e
  ·rw [if_neg c1] at e
   by_cases c2:fiI ws < 0
   ·rw [if_pos c2] at e; cases e
   ·rw [if_neg c2] at e
    by_cases c3:feI ps < 0
    ·rw [if_pos c3] at e; cases e
    ·rw [if_neg c3] at e
     obtain ⟨i,ei,hi,ki⟩:=zww h.img c2
     obtain ⟨k,ek,hk,fk⟩:=zrs h.img c3
     have en:=zhw.2 c1
     generalize paI ws ps s = pr at *
     obtain ⟨d,nm,pc⟩:=pr
     simp only at c hd dd hn en e
     subst c
     rw [ei,ek] at e
     have eu:us = znt i [(0,kind),(2,1)] ++ enL (k:Int) ⟨d,nm,(i:Int)⟩:=by
      injection e with e _
      rw [← e]
      unfold mkU znt
      simp only [List.map_cons,List.map_nil]
      rw [show 48 + 12 * (i:Int) + ((0:Nat):Int) = 48 + 12 * (i:Int) by omega]
      rfl
     obtain ⟨z,_,i0⟩:=h.img.free hi ki
     have xp:zwe (zan ws i) [(0,kind),(2,1)] = ⟨kind,0,1,0,0,0,0,0,0,0,0⟩:=by rw [z]; rfl
     refine ⟨i,k,d,nm,rfl,en,⟨hi,by omega,ki⟩,⟨hk,fk⟩,?_⟩
     rw [eu,← xp]
     refine (yaaf h hi hk (fun f hf => ?_) (.inr ⟨by show (0:Int) ≤ (i:Int); omega,hn⟩) ?_).1
     ·simp only [List.mem_cons,List.not_mem_nil,or_false] at hf
      rcases hf with rfl | rfl
      ·show (0:Nat) < 11; omega
      ·show (2:Nat) < 11; omega
     ·rw [xp]
      exact yanh h.img hi ki hk fk kd hd dd hn (zya h.img.l24 en)
 ·rw [if_neg c] at e
  injection e with _ e
  exact absurd e c
theorem yara (i:Nat):wrL (i:Int) zhu 8 = znt i [(0,0),(1,0),(2,0),(3,0),(4,0),(5,0),(6,0),(7,0),(8,0),(9,0),(10,0)]:=by
 unfold wrL znt
 simp only [List.map_cons,List.map_nil,List.range_succ,List.range_zero,List.nil_append,List.cons_append]
 rw [show 48 + 12 * (i:Int) + ((0:Nat):Int) = 48 + 12 * (i:Int) by omega]
 rfl
theorem yaia {ls:List Int} {ws:List Ino} {ps:List Den} {s:ByteArray} {us:List Se} (h:Wi ls ws ps) (e:rmI ws ps s = (us,0)) :
  ∃ (i k:Nat) (d:Int) (nm:ByteArray),paI ws ps s = (d,nm,0) ∧ zax ps d nm = some k ∧ (zau ps k).child = (i:Int) ∧ i < 16 ∧ k < 24 ∧ zbt ps (i:Int) = [] ∧ Wi (zbk ls us) (ws.set i (zcn (zan ws i))) (ps.set k freeD):=by
 unfold rmI at e
 by_cases c:(paI ws ps s).2.2 = 0
 ·rw [if_pos c] at e
  generalize paI ws ps s = pr at *
  obtain ⟨d,nm,pc⟩:=pr
  simp only at c e
  subst c
  unfold rmN at e
  cases en:zax ps d nm with
  | none => rw [en] at e; cases e
  | some k =>
   rw [en] at e
   have e':rmC ws ps k = (us,0):=e
   obtain ⟨hk,i,ci,ck,hi,ok,_,_⟩:=zls h.img en
   unfold rmC at e'
   rw [ci] at e'
   by_cases c1:zai ws (i:Int) = 2 ∧ ¬ zbt ps (i:Int) = []
   ·rw [if_pos c1] at e'; cases e'
   ·rw [if_neg c1] at e'
    have nn:zbt ps (i:Int) = []:=by
     by_cases q:zai ws (i:Int) = 2
     ·exact Classical.byContradiction fun r => c1 ⟨q,r⟩
     ·exact yacy (zbz.2 h.img) q
    refine ⟨i,k,d,nm,rfl,en,ck,hi,hk,nn,?_⟩
    have img:=yacb h.img hk ck (yadr h.img.l24 nn)
    injection e' with e' _
    rw [← e']
    unfold rmU
    rw [zqf]
    by_cases two:1 < (zan ws i).links
    ·rw [if_pos two]
     have xp:zwe (zan ws i) [(2,(zan ws i).links - 1)] = zcn (zan ws i):=by
      unfold zcn
      rw [if_pos two]
      rfl
     rw [← xp] at img ⊢
     exact (yaaf h hi hk (fun f hf => by simp only [List.mem_cons,List.not_mem_nil,or_false] at hf; rw [hf]; show (2:Nat) < 11; omega) (.inl rfl) img).2
    ·rw [if_neg two,yara]
     have xp:zwe (zan ws i) [(0,0),(1,0),(2,0),(3,0),(4,0),(5,0),(6,0),(7,0),(8,0),(9,0),(10,0)] = zcn (zan ws i):=by
      unfold zcn
      rw [if_neg two]
      rfl
     rw [← xp] at img ⊢
     refine (yaaf h hi hk (fun f hf => ?_) (.inl rfl) img).2
     simp only [List.mem_cons,List.not_mem_nil,or_false] at hf
     rcases hf with rfl | rfl | rfl | rfl | rfl | rfl | rfl | rfl | rfl | rfl | rfl <;> decide
 ·rw [if_neg c] at e
  injection e with _ e
  exact absurd e c
theorem yagt {ws:List Ino} {ps:List Den} (h:Img ws ps):∀ (ns:List ByteArray) (z:Int),(wk ws ps z ns).2 = 0 → ¬ zai ws z = 0 → ¬ zai ws (wk ws ps z ns).1 = 0
 | [],z,_,k => k
 | n :: ns,z,c,k => by
  by_cases q:zai ws z = 2
  ·cases e:zax ps z n with
   | none => rw [zgs q e] at c; cases c
   | some j =>
    rw [zfu q e] at c ⊢
    obtain ⟨_,i,ci,ck,_,ok,_,_⟩:=zls h e
    refine yagt h ns _ c ?_
    rw [ci,← ck]
    exact ok.2.2.2.1
  ·rw [zfa q] at c; cases c
theorem yahy {ws:List Ino} {ps:List Den} (h:Img ws ps):∀ (ns:List ByteArray) (z:Int),(wk ws ps z ns).2 = 0 → (wk ws ps z ns).1 = z ∨ 1 ≤ (wk ws ps z ns).1
 | [],z,_ => .inl rfl
 | n :: ns,z,c => by
  by_cases q:zai ws z = 2
  ·cases e:zax ps z n with
   | none => rw [zgs q e] at c; cases c
   | some k =>
    rw [zfu q e] at c ⊢
    obtain ⟨_,i,ci,ck,_,ok,_,_⟩:=zls h e
    have:=ok.1
    rcases yahy h ns _ c with r | r
    ·right
     rw [r,ci]
     omega
    ·exact .inr r
  ·rw [zfa q] at c; cases c
theorem zmj {ws:List Ino} {ps:List Den} {s:ByteArray} (h:Img ws ps) (c:(lkI ws ps s).2 = 0) (k:¬ zai ws (lkI ws ps s).1 = 2):∃ i:Nat,(lkI ws ps s).1 = (i:Int) ∧ i < 16 ∧ ¬ i = 0 ∧ (zan ws i).kind = 1:=by
 have rg:=yaah (s:=s) (zbz.2 h)
 refine ⟨(lkI ws ps s).1.toNat,by omega,by omega,?_⟩
 unfold lkI at c k rg ⊢
 by_cases q:spB s = true
 ·rw [if_pos q] at c k rg ⊢
  have r1:zai ws 0 = 2:=h.root
  have kk:=yagt h (spL s) 0 c (by rw [r1]; decide)
  have hp:1 ≤ (wk ws ps 0 (spL s)).1:=by
   rcases yahy h _ 0 c with r | r
   ·rw [r] at k; exact absurd r1 k
   ·exact r
  refine ⟨by omega,?_⟩
  obtain ⟨n,hn⟩:∃ n:Nat,(wk ws ps 0 (spL s)).1 = (n:Int):=⟨(wk ws ps 0 (spL s)).1.toNat,by omega⟩
  rw [hn] at k kk rg ⊢
  rw [Int.toNat_natCast]
  rw [zbf] at k kk
  have:=(zcp (h.ok n (by omega))).1
  omega
 ·rw [if_neg q] at c; cases c
theorem yaqy {ls:List Int} {ws:List Ino} {ps:List Den} {s t:ByteArray} {us:List Se} (h:Wi ls ws ps) (e:lnI ws ps s t = (us,0)) :
  ∃ (i k:Nat) (d:Int) (nm:ByteArray),lkI ws ps s = ((i:Int),0) ∧ (i < 16 ∧ ¬ i = 0 ∧ (zan ws i).kind = 1) ∧ paI ws ps t = (d,nm,0) ∧ zax ps d nm = none ∧ (k < 24 ∧ zau ps k = freeD) ∧ Wi (zbk ls us) (ws.set i (zgv (zan ws i))) (ps.set k ⟨d,nm,(i:Int)⟩):=by
 unfold lnI at e
 by_cases c0:(lkI ws ps s).2 = 0
 ·rw [if_pos c0] at e
  by_cases c1:zai ws (lkI ws ps s).1 = 2
  ·rw [if_pos c1] at e; cases e
  ·rw [if_neg c1] at e
   obtain ⟨i,ei,hi,i0,ki⟩:=zmj h.img c0 c1
   have el:lkI ws ps s = ((i:Int),0):=Prod.ext ei c0
   rw [ei] at e
   unfold lnP at e
   by_cases c:(paI ws ps t).2.2 = 0
   ·rw [if_pos c] at e
    obtain ⟨hd,dd,hn⟩:=zhf (zbz.2 h.img) c
    unfold lnN at e
    by_cases c2:0 ≤ zkf ps (paI ws ps t).1 (paI ws ps t).2.1
    ·rw [if_pos c2] at e; cases e
    ·rw [if_neg c2] at e
     by_cases c3:feI ps < 0
     ·rw [if_pos c3] at e; cases e
     ·rw [if_neg c3] at e
      obtain ⟨k,ek,hk,fk⟩:=zrs h.img c3
      have en:=zhw.2 c2
      generalize paI ws ps t = pr at *
      obtain ⟨d,nm,pc⟩:=pr
      simp only at c hd dd hn en e
      subst c
      rw [ek,zqf] at e
      injection e with e _
      refine ⟨i,k,d,nm,el,⟨hi,i0,ki⟩,rfl,en,⟨hk,fk⟩,?_⟩
      have img:=yanq h.img hi i0 ki hk fk hd dd hn (zya h.img.l24 en)
      have xp:zwe (zan ws i) [(2,(zan ws i).links + 1)] = zgv (zan ws i):=rfl
      rw [← e]
      rw [← xp] at img ⊢
      exact (yaaf h hi hk (fun f hf => by simp only [List.mem_cons,List.not_mem_nil,or_false] at hf; rw [hf]; show (2:Nat) < 11; omega) (.inr ⟨by show (0:Int) ≤ (i:Int); omega,hn⟩) img).2
   ·rw [if_neg c] at e
    injection e with _ e
    exact absurd e c
 ·rw [if_neg c0] at e
  injection e with _ e
  exact absurd e c0
theorem zpg {ls:List Int} {ws:List Ino} {ps:List Den} {s t:ByteArray} {us:List Se} (h:Wi ls ws ps) (e:rnI ws ps s t = (us,0)) :
  ∃ (i k:Nat) (d0 d:Int) (n0 nm:ByteArray),paI ws ps s = (d0,n0,0) ∧ zax ps d0 n0 = some k ∧ (zau ps k).child = (i:Int) ∧ i < 16 ∧ k < 24 ∧ paI ws ps t = (d,nm,0) ∧ zax ps d nm = none ∧ Wi (zbk ls us) ws (ps.set k ⟨d,nm,(i:Int)⟩):=by
 unfold rnI at e
 by_cases c0:(paI ws ps s).2.2 = 0
 ·rw [if_pos c0] at e
  unfold rnE at e
  cases en0:zax ps (paI ws ps s).1 (paI ws ps s).2.1 with
  | none => rw [en0] at e; cases e
  | some k =>
   rw [en0] at e
   have e':rnP ws ps t k = (us,0):=e
   obtain ⟨hk,i,ci,ck,hi,ok,_,_⟩:=zls h.img en0
   unfold rnP at e'
   by_cases c:(paI ws ps t).2.2 = 0
   ·rw [if_pos c] at e'
    obtain ⟨hd,dd,hn⟩:=zhf (zbz.2 h.img) c
    unfold rnN at e'
    rw [ci] at e'
    by_cases c2:0 ≤ zkf ps (paI ws ps t).1 (paI ws ps t).2.1
    ·rw [if_pos c2] at e'; cases e'
    ·rw [if_neg c2] at e'
     have en:=zhw.2 c2
     by_cases c3:zai ws (i:Int) = 2 ∧ zgj ps 17 (paI ws ps t).1 (i:Int) = true
     ·rw [if_pos c3] at e'; cases e'
     ·rw [if_neg c3] at e'
      generalize paI ws ps t = pr at *
      obtain ⟨d,nm,pc⟩:=pr
      generalize paI ws ps s = pq at *
      obtain ⟨d0,n0,qc⟩:=pq
      simp only at c hd dd hn en e' c0 en0 c3
      subst c c0
      injection e' with e' _
      refine ⟨i,k,d0,d,n0,nm,rfl,en0,ck,hi,hk,rfl,en,?_⟩
      rw [← e']
      exact yauh h hk (.inr ⟨by show (0:Int) ≤ (i:Int); omega,hn⟩) (yade h.img hk ck hd dd hn (zya h.img.l24 en) c3)
   ·rw [if_neg c] at e'
    injection e' with _ e'
    exact absurd e' c
 ·rw [if_neg c0] at e
  injection e with _ e
  exact absurd e c0
end Go.Proofs.YtkdjfhkalelafaaGreatDoor
