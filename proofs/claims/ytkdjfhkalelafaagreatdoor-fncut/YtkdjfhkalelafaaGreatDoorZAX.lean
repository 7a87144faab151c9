/- Several texts laid together: DtH, DtF, DtI. -/
import Derived.Test.YtkdjfhkalelafaaGreatDoorZAW
import Derived.Test.YtkdjfhkalelafaaGreatDoorZAS
import Derived.Test.YtkdjfhkalelafaaGreatDoorZAU
namespace Go.Proofs.YtkdjfhkalelafaaGreatDoor
open Go.RowKit
def yaen (w w':World) (e:Ending) (r:List Mi × Int):Prop:=∃ v',e = .returned (.tuple #[v',.int .i64 r.2]) ∧ Row w' 192 3 w.heap.size w'.heap.size v' r.1.length (mis r.1) ∧ Below w.heap.size w w'
theorem zfv {w w1:World} {n:Nat} {c:Int} (B:Below w.heap.size w w1) (e:n = w1.heap.size):yaen w (w1.alloc (.cells #[] 192)) (.returned (.tuple #[.slice (some ⟨n,0,none⟩) 0 0,.int .i64 c])) ([],c):=by
 subst e
 exact ⟨_,rfl,(zmu w1 _ _).wide B.size (Nat.le_refl _),B.alloc B.size _⟩
structure MiI (W w:World) (vL:Value) (ls:List Mi):Prop where
 l:w.ownsRow W.heap.size 192 3 vL ls.length (mis ls)
 b:Below W.heap.size W w
theorem MiI.z {W w:World} {vL:Value} {ls:List Mi} (h:MiI W w vL ls):W.heap.size ≤ w.heap.size:=h.b.size
theorem MiI.below {W w w':World} {vL:Value} {ls:List Mi} (h:MiI W w vL ls) (hb:Below w.heap.size w w'):MiI W w' vL ls :=
 ⟨((zad h.l).below hb (Nat.le_refl _)).1,zab h.b hb h.z⟩
theorem MiI.grow {W w w':World} {vL v':Value} {ls:List Mi} (h:MiI W w vL ls) (ms:List Mi) (ho:w'.ownsRow W.heap.size 192 3 v' (ls.length + ms.length) (mis ls ++ mis ms)) (hg:w.grownBy w' vL.ownBlock):MiI W w' v' (ls ++ ms) :=
 ⟨by rw [zqn,List.length_append]; exact ho,h.b.grown hg h.z (fun q hq => (h.l.lt q hq).1)⟩
theorem yaxp:(83:Nat) ≠ 192:=by decide
structure WrI (W w:World) (vL vU:Value) (ls:List Mi) (us:List Se):Prop where
 l:w.ownsRow W.heap.size 192 3 vL ls.length (mis ls)
 u:w.ownsRow W.heap.size 83 2 vU us.length (ses us)
 b:Below W.heap.size W w
theorem WrI.z {W w:World} {vL vU:Value} {ls:List Mi} {us:List Se} (h:WrI W w vL vU ls us):W.heap.size ≤ w.heap.size:=h.b.size
theorem WrI.mi {W w:World} {vL vU:Value} {ls:List Mi} {us:List Se} (h:WrI W w vL vU ls us):MiI W w vL ls:=⟨h.l,h.b⟩
theorem WrI.below {W w w':World} {vL vU:Value} {ls:List Mi} {us:List Se} (h:WrI W w vL vU ls us) (hb:Below w.heap.size w w'):WrI W w' vL vU ls us :=
 ⟨((zad h.l).below hb (Nat.le_refl _)).1,((zad h.u).below hb (Nat.le_refl _)).1,zab h.b hb h.z⟩
theorem WrI.growU {W w w':World} {vL vU v':Value} {ls:List Mi} {us:List Se} (h:WrI W w vL vU ls us) (ms:List Se) (ho:w'.ownsRow W.heap.size 83 2 v' (us.length + ms.length) (ses us ++ ses ms)) (hg:w.grownBy w' vU.ownBlock):WrI W w' vL v' ls (us ++ ms) :=
 ⟨(Row.apart (zad h.l) (zad h.u) (Ne.symm yaxp) hg).1,by rw [yaka,List.length_append]; exact ho,h.b.grown hg h.z (fun q hq => (h.u.lt q hq).1)⟩
theorem yajx (i page size e:Int):(wrU i page size e).length ≤ 2:=by
 unfold wrU
 split <;> simp
theorem yaul {i:Nat} {p:Nat} (hi:i < 16) (hp:p < 8) (size e:Int):∀ k (h:k < (wrU (i:Int) (p:Int) size e).length),0 ≤ (wrU (i:Int) (p:Int) size e)[k].at_ ∧ (wrU (i:Int) (p:Int) size e)[k].at_ < 336:=by
 intro k h
 have m:=List.getElem_mem h
 revert m
 generalize (wrU (i:Int) (p:Int) size e)[k] = u
 unfold wrU
 intro m
 rcases List.mem_cons.1 m with rfl | m
 ·exact ⟨by show 0 ≤ 48 + 12 * (i:Int) + (3 + (p:Int)); omega,by show 48 + 12 * (i:Int) + (3 + (p:Int)) < 336; omega⟩
 ·split at m
  ·rw [List.mem_singleton.1 m]
   exact ⟨by show 0 ≤ 48 + 12 * (i:Int) + 1; omega,by show 48 + 12 * (i:Int) + 1 < 336; omega⟩
  ·cases m
set_option maxRecDepth 100000 in
set_option maxHeartbeats 16000000 in
theorem zvi (v:Value) (ns:List Ino) (ds:List Den) (s:ByteArray) (page x:Int) (w:World) (h:RdIm w v ns ds) (hi:zcb ns ds = true) (hs:s.size ≤ 65536) :
  Calls Tryz.prog 159 #[v,.string s,.int .i64 page,.int .i64 x] w fun e w' => yaen w w' e (wrI ns ds s page x):=by
 have LL:=zaa (fun w1 (hb:Below w.heap.size w w1) => zjh v ns ds s w1 (h.below hb) hi hs)
 have EL:=zaa (show wrI ns ds s page x = if (flI ns ds s).2 = 0 then wrF ns (flI ns ds s).1 page x else ([],(flI ns ds s).2) from rfl)
 have LO:=zaa (fun c => zgu (s:=s) (zbz.1 hi) c)
 obtain ⟨l16,l24,_⟩:=zat hi
 have TR:∀ k (h:k < ns.length),∀ z ∈ ns[k].map,0 ≤ z ∧ z ≤ 1048576:=fun k hk z hz => by
  have t:=(zfn ((zbz.1 hi).ok k (by omega))).1 z (by rw [zca hk]; exact hz)
  unfold zet zhh at t
  rw [Bool.and_eq_true,decide_eq_true_eq,decide_eq_true_eq] at t
  omega
 have LF1:Hid (∀ w1,Below w.heap.size w w1 → Calls Tryz.prog 141 #[v,.int .i64 1,.int .i64 24] w1 fun e w' => e = .returned (.int .i64 (fpI ns)) ∧ Below w1.heap.size w1 w'):=fun w1 hb => zhb v ns ds 1 24 w1 (h.below hb) (by omega) TR (by omega)
 have LF2:Hid (∀ w1,Below w.heap.size w w1 → Calls Tryz.prog 141 #[v,.int .i64 2,.int .i64 32] w1 fun e w' => e = .returned (.int .i64 (fsI ns)) ∧ Below w1.heap.size w1 w'):=fun w1 hb => zhb v ns ds 2 32 w1 (h.below hb) (by omega) TR (by omega)
 have L16:=zaa l16
 have F1:Hid (0 ≤ fpI ns → ∃ k:Nat,k < 24 ∧ fpI ns = (k:Int)):=fun c => by
  obtain ⟨k,a,b,-⟩:=zdb c
  exact ⟨k,a,b⟩
 have F2:Hid (0 ≤ fsI ns → ∃ k:Nat,k < 32 ∧ fsI ns = (k:Int)):=fun c => by
  obtain ⟨k,a,b,-⟩:=zdb c
  exact ⟨k,a,b⟩
 have EF:=zaa (fun i => show wrF ns i page x = if (0 ≤ page ∧ page < 8) ∧ zbd x = true then (if fpI ns < 0 ∧ fsI ns < 0 then ([],7) else ((if 0 ≤ fpI ns then ⟨1,312 + fpI ns,x⟩ :: zbl [312 + fpI ns] else [⟨4,fsI ns,x⟩,⟨5,0,0⟩]) ++ zdr (zdx (wrU i page (zdp ns i) (if 0 ≤ fpI ns then 4 * fpI ns + 1 else 4 * fsI ns + 2))),0)) else ([],4) from rfl)
 obtain ⟨vW,vP,rfl,h1,h2⟩:=h
 obtain ⟨aW,cW,rfl,_,hcW⟩:=h1.shape
 obtain ⟨aP,cP,rfl,_,hcP⟩:=h2.shape
 obtain ⟨bW,oW,rfl,hblW,hcellW⟩:=hcW (by omega)
 have HM:Hid (∀ k,k < 16 → ∀ w',Below w.heap.size w w' → w'.cell? ⟨bW,oW + k * 11 + 1,none⟩ = some (.int .i64 (zdp ns (k:Int)))):=fun k hk w' hb => by
  unfold zdp
  rw [Int.toNat_natCast,zca (by omega:k < ns.length)]
  exact (hb.cell (p:=⟨bW,oW + k * 11 + 1,none⟩) hblW).trans (hcellW k (by omega)).2.1
 clear h1 h2 hi hs hcW hcP hcellW l16 l24 TR
 obtain ⟨W,hW⟩:∃ W,W = w.alloc (.cells #[.slice (some ⟨bW,oW,none⟩) ns.length cW,.slice aP ds.length cP] 42):=⟨_,rfl⟩
 have CA:Hid (∀ w',Below W.heap.size W w' → w'.cell? ⟨w.heap.size,0,none⟩ = some (.slice (some ⟨bW,oW,none⟩) ns.length cW) ∧ w'.cell? ⟨w.heap.size,1,none⟩ = some (.slice aP ds.length cP)):=fun w' hb => by
  have:w'.heap[w.heap.size]? = some (.cells #[.slice (some ⟨bW,oW,none⟩) ns.length cW,.slice aP ds.length cP] 42 (0,0)):=(hb.block _ (by rw [hW]; simp)).trans (by rw [hW]; exact zah rfl)
  exact ⟨(zac this).1,(zac this).2.1⟩
 have BW:Hid (Below w.heap.size w W):=by rw [hW]; exact (Below.refl _ _).alloc (Nat.le_refl _) _
 obtain ⟨x0,x1⟩:=CA.out _ (Below.refl _ _)
 have hz:w.heap.size < W.heap.size:=by rw [hW]; simp
 generalize wrI ns ds s page x = res at *
 generalize flI ns ds s = lr at *
 obtain ⟨li,lc⟩:=lr
 simp only at EL LO LL
 go_enter Tryz.func159,Tryz.ntmps159
 go_wp2_with fail
 rw [← hW]
 clear hW x0 x1
 refine (LL.out _ BW.out).mono ?_
 rintro e w1 ⟨rfl,hb1⟩
 have A1:=zaa hb1
 have B1:=zaa (zab BW.out A1.out BW.out.size)
 clear hb1 LL
 by_cases c:lc = 0
 case neg =>
  rw [if_neg c] at EL
  obtain rfl:=EL.out
  have q:(lc != 0) = true:=by rw [bne_iff_ne]; exact c
  clear EL LO c
  go_wp2
  go_ret2
  exact zfv B1.out rfl
 subst c
 rw [if_pos rfl] at EL
 obtain ⟨i,i16,ei,-⟩:=LO.out rfl
 subst ei
 rw [EF.out] at EL
 have HS:=zaa (HM.out i i16)
 have i1:i < ns.length:=by have:=L16.out; omega
 have i0:(0:Int) ≤ (i:Int):=by omega
 have il:(i:Int) < (ns.length:Int):=by omega
 have ir:0 ≤ (i:Int) ∧ (i:Int) < 16:=by omega
 clear HM EF LO L16
 generalize zdp ns (i:Int) = sz at *
 by_cases c:0 ≤ page ∧ page < 8
 case neg =>
  rw [if_neg (fun q => c q.1)] at EL
  obtain rfl:=EL.out
  clear EL
  go_wp2_with fail
  refine (zfs _ _ _ _ (by omega)).mono ?_
  rintro e w' ⟨rfl,hw'⟩
  subst w'
  go_wp2
  go_ret2
  exact zfv B1.out rfl
 obtain ⟨p,rfl⟩:∃ p:Nat,page = (p:Int):=⟨page.toNat,by omega⟩
 have p8:p < 8:=by omega
 go_wp2_with fail
 refine (zbm _ _ _ _ (by omega)).mono ?_
 rintro e w' ⟨rfl,hw'⟩
 subst w'
 go_wp2_with fail
 refine (zyr _ _).mono ?_
 rintro e w' ⟨rfl,hw'⟩
 subst w'
 cases cx:zbd x with
 | false =>
  rw [if_neg (fun q => by rw [cx] at q; cases q.2)] at EL
  obtain rfl:=EL.out
  clear EL
  go_wp2
  go_ret2
  exact zfv B1.out rfl
 | true =>
 rw [if_pos ⟨c,cx⟩] at EL
 clear c cx
 have EW:Hid ((sz ≤ (p:Int) → ∀ E,wrU (i:Int) (p:Int) sz E = [⟨48 + 12 * (i:Int) + (3 + (p:Int)),E⟩] ++ [⟨48 + 12 * (i:Int) + 1,(p:Int) + 1⟩]) ∧ (¬ sz ≤ (p:Int) → ∀ E,wrU (i:Int) (p:Int) sz E = [⟨48 + 12 * (i:Int) + (3 + (p:Int)),E⟩])) :=
  ⟨fun q E => by unfold wrU; rw [if_pos q]; rfl,fun q E => by unfold wrU; rw [if_neg q]⟩
 have LPl0:=zaa (fun E v w1 (h:RdE w1 v (wrU (i:Int) (p:Int) sz E)) => zoq v (wrU (i:Int) (p:Int) sz E) w1 h (by have:=yajx (i:Int) (p:Int) sz E; omega) (yaul i16 p8 sz E))
 have PN0:=zaa (fun E => Nat.le_trans (zkn (wrU (i:Int) (p:Int) sz E)) (show 6 * (wrU (i:Int) (p:Int) sz E).length + 8 ≤ 20 by have:=yajx (i:Int) (p:Int) sz E; omega))
 have M0:Hid (MiI W (w1.alloc (.cells #[] 192)) (.slice (some ⟨w1.heap.size,0,none⟩) 0 0) []):=⟨((zmu w1 192 3).wide A1.out.size (Nat.le_refl _)).1,A1.out.alloc A1.out.size _⟩
 obtain ⟨x0,x1⟩:=CA.out _ M0.out.b
 have B2:=zaa (zab BW.out M0.out.b BW.out.size)
 go_wp2_with fail
 obtain ⟨w2,hw2⟩:∃ w2,w2 = w1.alloc (.cells #[] 192):=⟨_,rfl⟩
 rw [← hw2] at M0 B2 x0 x1 ⊢
 clear hw2
 refine (LF1.out _ B2.out).mono ?_
 rintro e w3 ⟨rfl,hb3⟩
 have M3:=zaa (M0.out.below hb3)
 have B3:=zaa (zab BW.out M3.out.b BW.out.size)
 clear hb3 M0 x0 x1 B2 A1 B1 LF1
 generalize fpI ns = fp at *
 generalize fsI ns = fs at *
 by_cases c:0 ≤ fp
 ·rw [if_neg (fun q => by omega),if_pos c,if_pos c] at EL
  obtain ⟨k,k24,ek⟩:=F1.out c
  subst ek
  have c':(k:Int) ≥ 0:=c
  clear F1 F2 LF2
  have kr:0 ≤ (k:Int) ∧ (k:Int) < 32:=by omega
  go_wp2_with fail
  refine (zcz _ _ _).mono ?_
  rintro e w4 ⟨rfl,hb4⟩
  have M4:=zaa ((M3.out.below hb4).below ((Below.refl _ _).alloc (Nat.le_refl _) (.cells #[.int .i64 1,.int .i64 (312 + (k:Int)),.int .i64 x] 192)))
  have R4:=zaa (zqo w4 1 (312 + (k:Int)) x)
  have hz4:=M4.out.z
  clear hb4 M3
  go_wp2_with (at_builtin; refine zae _ rfl (.tmp 41) (.tmp 46) 32 rfl W.heap.size 192 (.agg #[.int .i64 0,.int .i64 0,.int .i64 0]) 3 24 Tryz.underlying32 zbx rfl (by decide) _ _ _ rfl M4.out.l _ 1 _ rfl R4.out (ziy _) (by first | omega | (simp [maxLen]; done) | (simp [maxLen]; omega)) (by first | omega | (simp; done) | (simp; omega)) hz4 ?_)
  intro v5 w5 hown5 hgr5
  have M5:=zaa (M4.out.grow [⟨1,312 + (k:Int),x⟩] (by rw [zmy]; exact hown5) hgr5)
  have M6:=zaa (M5.out.below ((Below.refl _ _).alloc (Nat.le_refl _) (.cells #[.int .i64 (312 + (k:Int))] 3)))
  have R6:=zaa (zky w5 (312 + (k:Int)))
  clear hown5 hgr5 M4 R4 M5
  go_wp2_with fail
  refine (zcy _ [312 + (k:Int)] _ R6.out (by simp) (by intro j h; simp at h; subst h; simp; omega)).mono ?_
  rintro e w7 ⟨v7,rfl,hr7,hb7⟩
  have M7:=zaa (M6.out.below hb7)
  have R7:=zaa hr7.rd
  have hz7:=M7.out.z
  have l7:(zbl [312 + (k:Int)]).length ≤ 2:=zbv [312 + (k:Int)]
  have EX:Hid ((⟨1,312 + (k:Int),x⟩:Mi) :: zbl [312 + (k:Int)] = ([] ++ [⟨1,312 + (k:Int),x⟩]) ++ zbl [312 + (k:Int)]):=rfl
  rw [EX.out] at EL
  clear hr7 hb7 M6 R6 EX
  generalize zbl [312 + (k:Int)] = FL at *
  go_wp2_with (at_builtin; refine zae _ rfl (.tmp 48) (.tmp 52) 32 rfl W.heap.size 192 (.agg #[.int .i64 0,.int .i64 0,.int .i64 0]) 3 24 Tryz.underlying32 zbx rfl (by decide) _ _ _ rfl M7.out.l _ _ _ rfl R7.out (zcw _) (by first | omega | (simp [maxLen]; done) | (simp [maxLen]; omega)) (by first | omega | (simp; done) | (simp; omega)) hz7 ?_)
  intro vT wT hownT hgrT
  have M:=zaa (M7.out.grow FL hownT hgrT)
  have lT:(([] ++ [(⟨1,312 + (k:Int),x⟩:Mi)]) ++ FL).length ≤ 3:=by simp; omega
  generalize ([] ++ [(⟨1,312 + (k:Int),x⟩:Mi)]) ++ FL = L at *
  clear hownT hgrT M7 R7
  go_wp2_with fail
  refine (zft _ _ _ (by omega) kr).mono ?_
  rintro e w' ⟨rfl,hw'⟩
  subst w'
  have LPl:=zaa (LPl0.out (4 * (k:Int) + 1))
  have PN:=PN0.out (4 * (k:Int) + 1)
  have EW:=zaa (And.intro (fun q => EW.out.1 q (4 * (k:Int) + 1)) (fun q => EW.out.2 q (4 * (k:Int) + 1)))
  generalize 4 * (k:Int) + 1 = E at *
  generalize zdr (zdx (wrU (i:Int) (p:Int) sz E)) = PL at *
  clear LPl0 PN0
  have SU:Hid (WrI W (wT.alloc (.cells #[.int .i64 (48 + 12 * (i:Int) + (3 + (p:Int))),.int .i64 E] 83)) vT (.slice (some ⟨wT.heap.size,0,none⟩) 1 1) L [⟨48 + 12 * (i:Int) + (3 + (p:Int)),E⟩]) :=
   ⟨((zad M.out.l).below ((Below.refl _ _).alloc (Nat.le_refl _) _) (Nat.le_refl _)).1,World.ownsRow_lit wT _ 1 M.out.b.size (by simp [maxLen]) rfl,M.out.b.alloc M.out.b.size _⟩
  have pr:0 ≤ 3 + (p:Int) ∧ 3 + (p:Int) < 11:=by omega
  go_wp2_with fail
  refine (zbc _ _ _ ir pr).mono ?_
  rintro e w' ⟨rfl,hw'⟩
  subst w'
  obtain ⟨x0,x1⟩:=CA.out _ SU.out.b
  have y0:=HS.out _ (zab BW.out SU.out.b BW.out.size)
  clear M
  by_cases cs:sz ≤ (p:Int)
  ·have cs':(p:Int) ≥ sz:=cs
   have SV:=zaa (SU.out.below ((Below.refl _ _).alloc (Nat.le_refl _) (.cells #[.int .i64 (48 + 12 * (i:Int) + 1),.int .i64 ((p:Int) + 1)] 83)))
   have RV:=zaa (ziq (wT.alloc (.cells #[.int .i64 (48 + 12 * (i:Int) + (3 + (p:Int))),.int .i64 E] 83)) (48 + 12 * (i:Int) + 1) ((p:Int) + 1))
   have hzv:=SV.out.z
   simp only [World.size_alloc] at RV
   go_wp2_with fail
   refine (zbc _ _ _ ir (by omega)).mono ?_
   rintro e w' ⟨rfl,hw'⟩
   subst w'
   clear SU
   go_wp2_with (at_builtin; refine zae _ rfl (.tmp 85) (.tmp 91) 46 rfl W.heap.size 83 (.agg #[.int .i64 0,.int .i64 0]) 2 16 Tryz.underlying46 zjy rfl (by decide) _ _ _ rfl SV.out.u _ 1 _ rfl RV.out (zew _) (by first | omega | (simp [maxLen])) (by first | omega | simp) hzv ?_)
   intro vU wU hownU hgrU
   have SW:=zaa (SV.out.growU [⟨48 + 12 * (i:Int) + 1,(p:Int) + 1⟩] hownU hgrU)
   obtain ⟨-,aU,kU,hvU,-⟩:=(zad hownU).rd
   subst hvU
   clear hownU hgrU SV RV x0 x1 y0
   have EU:=zaa (EW.out.1 cs)
   have UL:Hid (([⟨48 + 12 * (i:Int) + (3 + (p:Int)),E⟩] ++ [⟨48 + 12 * (i:Int) + 1,(p:Int) + 1⟩]:List Se) = wrU (i:Int) (p:Int) sz E):=EU.out.symm
   rw [UL.out] at SW
   go_wp2_with fail
   refine (LPl.out _ _ (zad SW.out.u).rd).mono ?_
   rintro e wP ⟨vP,rfl,hrP,hbP⟩
   have MP:=zaa ((SW.out.mi).below hbP)
   have RP:=zaa hrP.rd
   have hzp:=MP.out.z
   clear hrP hbP SW
   go_wp2_with (at_builtin; refine zae _ rfl (.tmp 93) (.tmp 95) 32 rfl W.heap.size 192 (.agg #[.int .i64 0,.int .i64 0,.int .i64 0]) 3 24 Tryz.underlying32 zbx rfl (by decide) _ _ _ rfl MP.out.l _ _ _ rfl RP.out (zcw _) (by first | omega | (simp [maxLen]; done) | (simp [maxLen]; omega)) (by first | omega | (simp; done) | (simp; omega)) hzp ?_)
   intro vN wN hownN hgrN
   have G:=zaa (MP.out.grow _ hownN hgrN)
   obtain ⟨-,aN,kN,hvN,-⟩:=(zad hownN).rd
   subst hvN
   obtain rfl:=EL.out
   clear hownN hgrN MP RP
   go_wp2
   go_ret2
   exact ⟨_,rfl,(zad G.out.l).wide (by have:=BW.out.size; omega) (Nat.le_refl _),zab BW.out G.out.b BW.out.size⟩
  ·have cs':¬ (p:Int) ≥ sz:=cs
   have SW:=SU
   have EU:=zaa (EW.out.2 (by omega))
   have UL:Hid (([⟨48 + 12 * (i:Int) + (3 + (p:Int)),E⟩]:List Se) = wrU (i:Int) (p:Int) sz E):=EU.out.symm
   rw [UL.out] at SW
   clear SU
   go_wp2_with fail
   refine (LPl.out _ _ (zad SW.out.u).rd).mono ?_
   rintro e wP ⟨vP,rfl,hrP,hbP⟩
   have MP:=zaa ((SW.out.mi).below hbP)
   have RP:=zaa hrP.rd
   have hzp:=MP.out.z
   clear hrP hbP SW
   go_wp2_with (at_builtin; refine zae _ rfl (.tmp 93) (.tmp 95) 32 rfl W.heap.size 192 (.agg #[.int .i64 0,.int .i64 0,.int .i64 0]) 3 24 Tryz.underlying32 zbx rfl (by decide) _ _ _ rfl MP.out.l _ _ _ rfl RP.out (zcw _) (by first | omega | (simp [maxLen]; done) | (simp [maxLen]; omega)) (by first | omega | (simp; done) | (simp; omega)) hzp ?_)
   intro vN wN hownN hgrN
   have G:=zaa (MP.out.grow _ hownN hgrN)
   obtain ⟨-,aN,kN,hvN,-⟩:=(zad hownN).rd
   subst hvN
   obtain rfl:=EL.out
   clear hownN hgrN MP RP
   go_wp2
   go_ret2
   exact ⟨_,rfl,(zad G.out.l).wide (by have:=BW.out.size; omega) (Nat.le_refl _),zab BW.out G.out.b BW.out.size⟩
 ·have c':¬ fp ≥ 0:=c
  obtain ⟨x0,x1⟩:=CA.out _ M3.out.b
  go_wp2_with fail
  refine (LF2.out _ B3.out).mono ?_
  rintro e w4 ⟨rfl,hb4⟩
  have M4:=zaa (M3.out.below hb4)
  have B4:=zaa (zab BW.out M4.out.b BW.out.size)
  clear hb4 M3 x0 x1 B3 LF2
  by_cases d:0 ≤ fs
  case neg =>
   have d':¬ fs ≥ 0:=d
   rw [if_pos ⟨by omega,by omega⟩] at EL
   obtain rfl:=EL.out
   clear EL
   go_wp2
   go_ret2
   exact zfv B4.out rfl
  rw [if_neg (fun q => by omega),if_neg (by omega:¬ 0 ≤ fp),if_neg (by omega:¬ 0 ≤ fp)] at EL
  obtain ⟨k,k32,ek⟩:=F2.out d
  subst ek
  have d':(k:Int) ≥ 0:=d
  clear F1 F2
  have kr:0 ≤ (k:Int) ∧ (k:Int) < 32:=by omega
  have M5:=zaa (M4.out.below ((Below.refl _ _).alloc (Nat.le_refl _) (.cells #[.int .i64 4,.int .i64 (k:Int),.int .i64 x,.int .i64 5,.int .i64 0,.int .i64 0] 192)))
  have R5:=zaa (yaeu w4 4 (k:Int) x 5 0 0)
  have hz5:=M5.out.z
  clear M4
  go_wp2_with (at_builtin; refine zae _ rfl (.tmp 60) (.tmp 65) 32 rfl W.heap.size 192 (.agg #[.int .i64 0,.int .i64 0,.int .i64 0]) 3 24 Tryz.underlying32 zbx rfl (by decide) _ _ _ rfl M5.out.l _ 2 _ rfl R5.out (zcw _) (by first | omega | (simp [maxLen]; done) | (simp [maxLen]; omega)) (by first | omega | (simp; done) | (simp; omega)) hz5 ?_)
  intro vT wT hownT hgrT
  have M:=zaa (M5.out.grow [⟨4,(k:Int),x⟩,⟨5,0,0⟩] hownT hgrT)
  have EX:Hid ([(⟨4,(k:Int),x⟩:Mi),⟨5,0,0⟩] = [] ++ [⟨4,(k:Int),x⟩,⟨5,0,0⟩]):=rfl
  rw [EX.out] at EL
  have lT:([] ++ [(⟨4,(k:Int),x⟩:Mi),⟨5,0,0⟩]).length ≤ 3:=by simp
  generalize [] ++ [(⟨4,(k:Int),x⟩:Mi),⟨5,0,0⟩] = L at *
  clear hownT hgrT M5 R5 EX
  go_wp2_with fail
  refine (zft _ _ _ (by omega) kr).mono ?_
  rintro e w' ⟨rfl,hw'⟩
  subst w'
  have LPl:=zaa (LPl0.out (4 * (k:Int) + 2))
  have PN:=PN0.out (4 * (k:Int) + 2)
  have EW:=zaa (And.intro (fun q => EW.out.1 q (4 * (k:Int) + 2)) (fun q => EW.out.2 q (4 * (k:Int) + 2)))
  generalize 4 * (k:Int) + 2 = E at *
  generalize zdr (zdx (wrU (i:Int) (p:Int) sz E)) = PL at *
  clear LPl0 PN0
  have SU:Hid (WrI W (wT.alloc (.cells #[.int .i64 (48 + 12 * (i:Int) + (3 + (p:Int))),.int .i64 E] 83)) vT (.slice (some ⟨wT.heap.size,0,none⟩) 1 1) L [⟨48 + 12 * (i:Int) + (3 + (p:Int)),E⟩]) :=
   ⟨((zad M.out.l).below ((Below.refl _ _).alloc (Nat.le_refl _) _) (Nat.le_refl _)).1,World.ownsRow_lit wT _ 1 M.out.b.size (by simp [maxLen]) rfl,M.out.b.alloc M.out.b.size _⟩
  have pr:0 ≤ 3 + (p:Int) ∧ 3 + (p:Int) < 11:=by omega
  go_wp2_with fail
  refine (zbc _ _ _ ir pr).mono ?_
  rintro e w' ⟨rfl,hw'⟩
  subst w'
  obtain ⟨x0,x1⟩:=CA.out _ SU.out.b
  have y0:=HS.out _ (zab BW.out SU.out.b BW.out.size)
  clear M
  by_cases cs:sz ≤ (p:Int)
  ·have cs':(p:Int) ≥ sz:=cs
   have SV:=zaa (SU.out.below ((Below.refl _ _).alloc (Nat.le_refl _) (.cells #[.int .i64 (48 + 12 * (i:Int) + 1),.int .i64 ((p:Int) + 1)] 83)))
   have RV:=zaa (ziq (wT.alloc (.cells #[.int .i64 (48 + 12 * (i:Int) + (3 + (p:Int))),.int .i64 E] 83)) (48 + 12 * (i:Int) + 1) ((p:Int) + 1))
   have hzv:=SV.out.z
   simp only [World.size_alloc] at RV
   go_wp2_with fail
   refine (zbc _ _ _ ir (by omega)).mono ?_
   rintro e w' ⟨rfl,hw'⟩
   subst w'
   clear SU
   go_wp2_with (at_builtin; refine zae _ rfl (.tmp 85) (.tmp 91) 46 rfl W.heap.size 83 (.agg #[.int .i64 0,.int .i64 0]) 2 16 Tryz.underlying46 zjy rfl (by decide) _ _ _ rfl SV.out.u _ 1 _ rfl RV.out (zew _) (by first | omega | (simp [maxLen])) (by first | omega | simp) hzv ?_)
   intro vU wU hownU hgrU
   have SW:=zaa (SV.out.growU [⟨48 + 12 * (i:Int) + 1,(p:Int) + 1⟩] hownU hgrU)
   obtain ⟨-,aU,kU,hvU,-⟩:=(zad hownU).rd
   subst hvU
   clear hownU hgrU SV RV x0 x1 y0
   have EU:=zaa (EW.out.1 cs)
   have UL:Hid (([⟨48 + 12 * (i:Int) + (3 + (p:Int)),E⟩] ++ [⟨48 + 12 * (i:Int) + 1,(p:Int) + 1⟩]:List Se) = wrU (i:Int) (p:Int) sz E):=EU.out.symm
   rw [UL.out] at SW
   go_wp2_with fail
   refine (LPl.out _ _ (zad SW.out.u).rd).mono ?_
   rintro e wP ⟨vP,rfl,hrP,hbP⟩
   have MP:=zaa ((SW.out.mi).below hbP)
   have RP:=zaa hrP.rd
   have hzp:=MP.out.z
   clear hrP hbP SW
   go_wp2_with (at_builtin; refine zae _ rfl (.tmp 93) (.tmp 95) 32 rfl W.heap.size 192 (.agg #[.int .i64 0,.int .i64 0,.int .i64 0]) 3 24 Tryz.underlying32 zbx rfl (by decide) _ _ _ rfl MP.out.l _ _ _ rfl RP.out (zcw _) (by first | omega | (simp [maxLen]; done) | (simp [maxLen]; omega)) (by first | omega | (simp; done) | (simp; omega)) hzp ?_)
   intro vN wN hownN hgrN
   have G:=zaa (MP.out.grow _ hownN hgrN)
   obtain ⟨-,aN,kN,hvN,-⟩:=(zad hownN).rd
   subst hvN
   obtain rfl:=EL.out
   clear hownN hgrN MP RP
   go_wp2
   go_ret2
   exact ⟨_,rfl,(zad G.out.l).wide (by have:=BW.out.size; omega) (Nat.le_refl _),zab BW.out G.out.b BW.out.size⟩
  ·have cs':¬ (p:Int) ≥ sz:=cs
   have SW:=SU
   have EU:=zaa (EW.out.2 (by omega))
   have UL:Hid (([⟨48 + 12 * (i:Int) + (3 + (p:Int)),E⟩]:List Se) = wrU (i:Int) (p:Int) sz E):=EU.out.symm
   rw [UL.out] at SW
   clear SU
   go_wp2_with fail
   refine (LPl.out _ _ (zad SW.out.u).rd).mono ?_
   rintro e wP ⟨vP,rfl,hrP,hbP⟩
   have MP:=zaa ((SW.out.mi).below hbP)
   have RP:=zaa hrP.rd
   have hzp:=MP.out.z
   clear hrP hbP SW
   go_wp2_with (at_builtin; refine zae _ rfl (.tmp 93) (.tmp 95) 32 rfl W.heap.size 192 (.agg #[.int .i64 0,.int .i64 0,.int .i64 0]) 3 24 Tryz.underlying32 zbx rfl (by decide) _ _ _ rfl MP.out.l _ _ _ rfl RP.out (zcw _) (by first | omega | (simp [maxLen]; done) | (simp [maxLen]; omega)) (by first | omega | (simp; done) | (simp; omega)) hzp ?_)
   intro vN wN hownN hgrN
   have G:=zaa (MP.out.grow _ hownN hgrN)
   obtain ⟨-,aN,kN,hvN,-⟩:=(zad hownN).rd
   subst hvN
   obtain rfl:=EL.out
   clear hownN hgrN MP RP
   go_wp2
   go_ret2
   exact ⟨_,rfl,(zad G.out.l).wide (by have:=BW.out.size; omega) (Nat.le_refl _),zab BW.out G.out.b BW.out.size⟩
set_option maxRecDepth 100000 in
set_option maxHeartbeats 8000000 in
theorem zqu (v:Value) (ns:List Ino) (ds:List Den) (s:ByteArray) (size:Int) (w:World) (h:RdIm w v ns ds) (hi:zcb ns ds = true) (hs:s.size ≤ 65536) :
  Calls Tryz.prog 43 #[v,.string s,.int .i64 size] w fun e w' => zjo w w' e (cuI ns ds s size):=by
 have LL:=zaa (fun w1 (hb:Below w.heap.size w w1) => zjh v ns ds s w1 (h.below hb) hi hs)
 have EL:=zaa (show cuI ns ds s size = if (flI ns ds s).2 = 0 then cuF ns (flI ns ds s).1 size else ([],(flI ns ds s).2) from rfl)
 have LO:=zaa (fun c => zgu (s:=s) (zbz.1 hi) c)
 obtain ⟨l16,l24,_⟩:=zat hi
 have L16:=zaa l16
 obtain ⟨vW,vP,rfl,h1,h2⟩:=h
 obtain ⟨aW,cW,rfl,_,hcW⟩:=h1.shape
 obtain ⟨aP,cP,rfl,_,hcP⟩:=h2.shape
 obtain ⟨bW,oW,rfl,hblW,hcellW⟩:=hcW (by omega)
 have HM:Hid (∀ k,k < 16 → ∀ w',Below w.heap.size w w' → ∀ j,j < 8 → w'.cell? ⟨bW,oW + k * 11 + 3 + j,none⟩ = some (.int .i64 ((zan ns k).map.getD j 0))):=fun k hk w' hb j hj => by
  rw [zca (by omega:k < ns.length)]
  obtain ⟨a0,a1,a2,a3,a4,a5,a6,a7,a8,a9,a10⟩:=hcellW k (by omega)
  rcases (show j = 0 ∨ j = 1 ∨ j = 2 ∨ j = 3 ∨ j = 4 ∨ j = 5 ∨ j = 6 ∨ j = 7 by omega) with rfl | rfl | rfl | rfl | rfl | rfl | rfl | rfl
  ·exact (hb.cell (p:=⟨bW,oW + k * 11 + 3,none⟩) hblW).trans a3
  ·exact (hb.cell (p:=⟨bW,oW + k * 11 + 4,none⟩) hblW).trans a4
  ·exact (hb.cell (p:=⟨bW,oW + k * 11 + 5,none⟩) hblW).trans a5
  ·exact (hb.cell (p:=⟨bW,oW + k * 11 + 6,none⟩) hblW).trans a6
  ·exact (hb.cell (p:=⟨bW,oW + k * 11 + 7,none⟩) hblW).trans a7
  ·exact (hb.cell (p:=⟨bW,oW + k * 11 + 8,none⟩) hblW).trans a8
  ·exact (hb.cell (p:=⟨bW,oW + k * 11 + 9,none⟩) hblW).trans a9
  ·exact (hb.cell (p:=⟨bW,oW + k * 11 + 10,none⟩) hblW).trans a10
 clear h1 h2 hi hs hcW hcP hcellW l16 l24
 obtain ⟨W,hW⟩:∃ W,W = w.alloc (.cells #[.slice (some ⟨bW,oW,none⟩) ns.length cW,.slice aP ds.length cP] 42):=⟨_,rfl⟩
 have CA:Hid (∀ w',Below W.heap.size W w' → w'.cell? ⟨w.heap.size,0,none⟩ = some (.slice (some ⟨bW,oW,none⟩) ns.length cW) ∧ w'.cell? ⟨w.heap.size,1,none⟩ = some (.slice aP ds.length cP)):=fun w' hb => by
  have:w'.heap[w.heap.size]? = some (.cells #[.slice (some ⟨bW,oW,none⟩) ns.length cW,.slice aP ds.length cP] 42 (0,0)):=(hb.block _ (by rw [hW]; simp)).trans (by rw [hW]; exact zah rfl)
  exact ⟨(zac this).1,(zac this).2.1⟩
 have BW:Hid (Below w.heap.size w W):=by rw [hW]; exact (Below.refl _ _).alloc (Nat.le_refl _) _
 obtain ⟨x0,x1⟩:=CA.out _ (Below.refl _ _)
 have hz:w.heap.size < W.heap.size:=by rw [hW]; simp
 generalize cuI ns ds s size = res at *
 generalize flI ns ds s = lr at *
 obtain ⟨li,lc⟩:=lr
 simp only at EL LO LL
 go_enter Tryz.func43,Tryz.ntmps43
 go_wp2_with fail
 rw [← hW]
 clear hW x0 x1
 refine (LL.out _ BW.out).mono ?_
 rintro e w1 ⟨rfl,hb1⟩
 have A1:=zaa hb1
 have B1:=zaa (zab BW.out A1.out BW.out.size)
 clear hb1 LL
 by_cases c:lc = 0
 case neg =>
  rw [if_neg c] at EL
  obtain rfl:=EL.out
  have q:(lc != 0) = true:=by rw [bne_iff_ne]; exact c
  clear EL LO c
  go_wp2
  go_ret2
  exact zcc B1.out
 subst c
 rw [if_pos rfl] at EL
 obtain ⟨i,i16,ei,-⟩:=LO.out rfl
 subst ei
 have EC:=zaa (show cuF ns (i:Int) size = if 0 ≤ size ∧ size ≤ 8 then (cuU (zan ns i).map (i:Int) size.toNat 8,0) else ([],4) from rfl)
 rw [EC.out] at EL
 have HMi:=zaa (HM.out i i16)
 have i1:i < ns.length:=by have:=L16.out; omega
 have i0:(0:Int) ≤ (i:Int):=by omega
 have il:(i:Int) < (ns.length:Int):=by omega
 have ir:0 ≤ (i:Int) ∧ (i:Int) < 16:=by omega
 clear HM EC LO L16
 by_cases c:0 ≤ size ∧ size ≤ 8
 case neg =>
  rw [if_neg c] at EL
  obtain rfl:=EL.out
  clear EL
  go_wp2_with fail
  refine (zfs _ _ _ _ c).mono ?_
  rintro e w' ⟨rfl,hw'⟩
  subst w'
  go_wp2
  go_ret2
  exact zcc B1.out
 rw [if_pos c] at EL
 obtain ⟨n,rfl⟩:∃ n:Nat,size = (n:Int):=⟨size.toNat,by omega⟩
 rw [Int.toNat_natCast] at EL
 have n8:n ≤ 8:=by omega
 generalize (zan ns i).map = zs at *
 go_wp2_with fail
 refine (zbm _ _ _ _ c).mono ?_
 rintro e w' ⟨rfl,hw'⟩
 subst w'
 clear c
 go_wp2_with (go_at_call 93; refine (zbc _ _ _ ir (by omega)).mono ?_; rintro e w' ⟨rfl,hw'⟩; subst w')
 have ST:Hid (UpI W (w1.alloc (.cells #[.int .i64 (48 + 12 * (i:Int) + 1),.int .i64 (n:Int)] 83)) (.slice (some ⟨w1.heap.size,0,none⟩) 1 1) (cuU zs (i:Int) n n)):=by
  unfold Hid cuU
  rw [yafh]
  exact ⟨World.ownsRow_lit w1 _ 1 A1.out.size (by simp [maxLen]) rfl,A1.out.alloc A1.out.size _⟩
 go_loopw [10,11] (fun vL k wr => ∃ m:Nat,n ≤ m ∧ m ≤ 8 ∧ k = .int .i64 (m:Int) ∧ Hid (UpI W wr vL (cuU zs (i:Int) n m))) (fun _ k _ => 8 - (intOf k).toNat)
 case atStart => exact ⟨n,Nat.le_refl _,n8,rfl,ST⟩
 case round =>
  obtain ⟨m,hm,hm8,rfl,J⟩:=hrel
  clear ST A1 B1
  obtain ⟨x0,x1⟩:=CA.out _ J.out.b
  have JW:=zaa (zab BW.out J.out.b BW.out.size)
  have hzj:W.heap.size ≤ wr.heap.size:=J.out.z
  have m0:(0:Int) ≤ (m:Int):=by omega
  by_cases hlt:m < 8
  ·have m1:(m:Int) < 8:=by omega
   have e0:=HMi.out wr JW.out m hlt
   have YES:=zaa (fun e => yatc (zs:=zs) (i:=(i:Int)) (n:=n) (k:=m) hm e)
   have NO:=zaa (fun e => yauv (zs:=zs) (i:=(i:Int)) (n:=n) (k:=m) e)
   have hlen:(cuU zs (i:Int) n m).length ≤ 9:=by
    have:=zye zs (i:Int) n m
    show (cuT zs (i:Int) n m).length + 1 ≤ 9
    omega
   generalize zs.getD m 0 = z at e0 YES NO
   by_cases q:z = 0
   ·have q':(z != 0) = false:=by rw [q]; rfl
    have G:Hid (UpI W wr u10 (cuU zs (i:Int) n (m + 1))):=by
     unfold Hid cuU
     rw [NO.out q]
     exact J.out
    clear q J YES NO
    go_wp2
    go_roundw
    case rel => exact ⟨m + 1,by omega,by omega,by go_num,G⟩
    case measure => simp [intOf]; omega
   ·have q':(z != 0) = true:=by rw [bne_iff_ne]; exact q
    have JB:Hid (UpI W (wr.alloc (.cells #[.int .i64 (48 + 12 * (i:Int) + (3 + (m:Int))),.int .i64 0] 83)) u10 (cuU zs (i:Int) n m)):=J.out.below ((Below.refl _ _).alloc (Nat.le_refl _) _)
    have RB:=zaa (ziq wr (48 + 12 * (i:Int) + (3 + (m:Int))) 0)
    have hzb:=JB.out.z
    have MN:Hid (cuU zs (i:Int) n (m + 1) = cuU zs (i:Int) n m ++ [⟨48 + 12 * (i:Int) + (3 + (m:Int)),0⟩]):=by
     unfold Hid cuU
     rw [YES.out q]
     rfl
    have mr:0 ≤ 3 + (m:Int) ∧ 3 + (m:Int) < 11:=by omega
    clear q J YES NO
    go_wp2_with fail
    refine (zbc _ _ _ ir mr).mono ?_
    rintro e w' ⟨rfl,hw'⟩
    subst w'
    go_wp2_with (at_builtin; refine zae _ rfl (.tmp 45) (.tmp 51) 46 rfl W.heap.size 83 (.agg #[.int .i64 0,.int .i64 0]) 2 16 Tryz.underlying46 zjy rfl (by decide) _ _ _ rfl JB.out.l _ 1 _ rfl RB.out (zew _) (by first | omega | (simp [maxLen]; omega)) (by first | omega | (simp; omega)) hzb ?_)
    intro vN wN hownN hgrN
    have G:=zaa (JB.out.grow [⟨48 + 12 * (i:Int) + (3 + (m:Int)),0⟩] hownN hgrN)
    rw [← MN.out] at G
    clear hownN hgrN JB RB
    go_wp2
    go_roundw
    case rel => exact ⟨m + 1,by omega,by omega,by go_num,G⟩
    case measure => simp [intOf]; omega
  ·obtain rfl:m = 8:=by omega
   obtain rfl:=EL.out
   obtain ⟨-,aN,cN,hvN,-⟩:=(zad J.out.l).rd
   subst hvN
   go_wp2
   go_ret2
   exact ⟨_,rfl,(zad J.out.l).wide (by omega) (Nat.le_refl _),JW.out⟩
set_option maxRecDepth 100000 in
set_option maxHeartbeats 4000000 in
theorem yaie (v:Value) (ws:List Ino) (ps:List Den) (s:ByteArray) (size:Int) (w:World) (h:RdIm w v ws ps) (hw:ws.length ≤ 1048576) (hp:ps.length ≤ 1048576) (hr:∀ k (h:k < ws.length),ws[k].R) (hs:∀ k (h:k < ps.length),ps[k].name.size ≤ maxLen) :
  Calls Tryz.prog 17 #[v,.string s,.int .i64 size] w fun e w' => zjo w w' e (cuR ws ps s size):=by
 have LI:=zaa (fun w1 (hb:Below w.heap.size w w1) => zho v ws ps w1 (h.below hb) hw hp hr hs)
 have LL:=zaa (fun w1 (hb:Below w.heap.size w w1) hi hs => zqu v ws ps s size w1 (h.below hb) hi hs)
 have EL:=zaa (show cuR ws ps s size = if 65536 < s.size then ([],2) else if zcb ws ps = true then cuI ws ps s size else ([],1) from rfl)
 obtain ⟨vW,vP,rfl,h1,h2⟩:=h
 obtain ⟨aW,cW,rfl,_,_⟩:=h1.shape
 obtain ⟨aP,cP,rfl,_,_⟩:=h2.shape
 clear h1 h2 hr hs
 have CA:Hid (∀ w',Below (w.alloc (.cells #[.slice aW ws.length cW,.slice aP ps.length cP] 42)).heap.size (w.alloc (.cells #[.slice aW ws.length cW,.slice aP ps.length cP] 42)) w' → w'.cell? ⟨w.heap.size,0,none⟩ = some (.slice aW ws.length cW) ∧ w'.cell? ⟨w.heap.size,1,none⟩ = some (.slice aP ps.length cP)):=fun w' hb => by
  have:w'.heap[w.heap.size]? = some (.cells #[.slice aW ws.length cW,.slice aP ps.length cP] 42 (0,0)):=(hb.block _ (by simp)).trans (zah rfl)
  exact ⟨(zac this).1,(zac this).2.1⟩
 have BW:Hid (Below w.heap.size w (w.alloc (.cells #[.slice aW ws.length cW,.slice aP ps.length cP] 42))):=(Below.refl _ _).alloc (Nat.le_refl _) _
 obtain ⟨x0,x1⟩:=CA.out _ (Below.refl _ _)
 generalize cuR ws ps s size = res at *
 generalize cuI ws ps s size = r1 at *
 by_cases c1:65536 < s.size
 ·rw [if_pos c1] at EL
  have c2:(s.size:Int) > 65536:=by omega
  obtain rfl:=EL.out
  clear EL c1 LL
  go_enter Tryz.func17,Tryz.ntmps17
  go_wp2
  go_ret2
  exact zsm BW.out (World.size_alloc _ _).symm
 rw [if_neg c1] at EL
 have c2:¬ (s.size:Int) > 65536:=by omega
 have LL2:=zaa (fun w1 h hi => LL.out w1 h hi (by omega))
 clear LL c1
 generalize hi:zcb ws ps = ib at *
 go_enter Tryz.func17,Tryz.ntmps17
 go_wp2_with fail
 refine (LI.out _ BW.out).mono ?_
 rintro e w1 ⟨rfl,hb1⟩
 have B1:=zaa (zab BW.out hb1 BW.out.size)
 clear x0 x1
 obtain ⟨x0,x1⟩:=CA.out _ hb1
 clear hb1
 cases ib with
 | false =>
  obtain rfl:=EL.out
  clear EL LL2 x0 x1
  go_wp2
  go_ret2
  exact zcc B1.out
 | true =>
  rw [if_pos rfl] at EL
  have LL3:=zaa (fun w1 h => LL2.out w1 h rfl)
  clear LL2
  obtain rfl:=EL.out
  clear EL
  go_wp2_with fail
  refine (LL3.out _ B1.out).mono ?_
  rintro e w2 ⟨v2,rfl,hr2,hb2⟩
  have R2:=zaa (hr2.wide B1.out.size (Nat.le_refl _))
  have B2:=zaa (zab B1.out hb2 B1.out.size)
  obtain ⟨-,aL,cL,hvL,-⟩:=hr2.rd
  subst hvL
  clear hr2 hb2
  go_wp2
  go_ret2
  exact ⟨_,rfl,R2.out,B2.out⟩
def uoI (ns:List Ino) (ds:List Den) (k:Int) (p t:ByteArray) (g:Int):List Se × Int:=if k = 1 then mkI ns ds p 1 else if k = 2 then mkI ns ds p 2 else if k = 3 then rmI ns ds p else if k = 4 then lnI ns ds p t else if k = 5 then rnI ns ds p t else cuI ns ds p g
set_option maxRecDepth 100000 in
set_option maxHeartbeats 8000000 in
theorem zpy (v:Value) (ns:List Ino) (ds:List Den) (k:Int) (p t:ByteArray) (g y:Int) (w:World) (h:RdIm w v ns ds) (hi:zcb ns ds = true) (hp:p.size ≤ 65536) (ht:t.size ≤ 65536) :
  Calls Tryz.prog 162 #[v,.agg #[.int .i64 k,.string p,.string t,.int .i64 g,.int .i64 y]] w fun e w' => zjo w w' e (uoI ns ds k p t g):=by
 have L1:=zaa (fun w1 (hb:Below w.heap.size w w1) => zoc v ns ds p 1 w1 (h.below hb) hi hp)
 have L2:=zaa (fun w1 (hb:Below w.heap.size w w1) => zoc v ns ds p 2 w1 (h.below hb) hi hp)
 have L3:=zaa (fun w1 (hb:Below w.heap.size w w1) => zrx v ns ds p w1 (h.below hb) hi hp)
 have L4:=zaa (fun w1 (hb:Below w.heap.size w w1) => zzj v ns ds p t w1 (h.below hb) hi ⟨hp,ht⟩)
 have L5:=zaa (fun w1 (hb:Below w.heap.size w w1) => zks v ns ds p t w1 (h.below hb) hi ⟨hp,ht⟩)
 have L6:=zaa (fun w1 (hb:Below w.heap.size w w1) => zqu v ns ds p g w1 (h.below hb) hi hp)
 have EL:=zaa (show uoI ns ds k p t g = if k = 1 then mkI ns ds p 1 else if k = 2 then mkI ns ds p 2 else if k = 3 then rmI ns ds p else if k = 4 then lnI ns ds p t else if k = 5 then rnI ns ds p t else cuI ns ds p g from rfl)
 obtain ⟨vW,vP,rfl,h1,h2⟩:=h
 obtain ⟨aW,cW,rfl,_,_⟩:=h1.shape
 obtain ⟨aP,cP,rfl,_,_⟩:=h2.shape
 clear h1 h2 hi hp ht
 obtain ⟨W,hW⟩:∃ W,W = (w.alloc (.cells #[.slice aW ns.length cW,.slice aP ds.length cP] 42)).alloc (.cells #[.int .i64 k,.string p,.string t,.int .i64 g,.int .i64 y] 106):=⟨_,rfl⟩
 have BW:Hid (Below w.heap.size w W):=by rw [hW]; exact ((Below.refl _ _).alloc (Nat.le_refl _) _).alloc (by simp) _
 rw [EL.out]
 by_cases c1:k = 1
 case pos =>
  rw [if_pos c1]
  have LL:=L1
  clear EL L1 L2 L3 L4 L5 L6
  subst c1
  generalize mkI ns ds p 1 = res at *
  go_enter Tryz.func162,Tryz.ntmps162
  go_wp2_with fail
  rw [← hW]
  clear hW
  refine (LL.out _ BW.out).mono ?_
  rintro e w1 ⟨v1,rfl,hr1,hb1⟩
  have R1:=zaa (hr1.wide BW.out.size (Nat.le_refl _))
  have B1:=zaa (zab BW.out hb1 BW.out.size)
  obtain ⟨-,aL,cL,hvL,-⟩:=hr1.rd
  subst hvL
  clear hr1 hb1
  go_wp2
  go_ret2
  exact ⟨_,rfl,R1.out,B1.out⟩
 have q1:(k == 1) = false:=by rw [beq_eq_false_iff_ne]; exact c1
 by_cases c2:k = 2
 case pos =>
  rw [if_neg c1,if_pos c2]
  have LL:=L2
  clear EL L1 L2 L3 L4 L5 L6
  subst c2
  generalize mkI ns ds p 2 = res at *
  go_enter Tryz.func162,Tryz.ntmps162
  go_wp2_with fail
  rw [← hW]
  clear hW
  refine (LL.out _ BW.out).mono ?_
  rintro e w1 ⟨v1,rfl,hr1,hb1⟩
  have R1:=zaa (hr1.wide BW.out.size (Nat.le_refl _))
  have B1:=zaa (zab BW.out hb1 BW.out.size)
  obtain ⟨-,aL,cL,hvL,-⟩:=hr1.rd
  subst hvL
  clear hr1 hb1
  go_wp2
  go_ret2
  exact ⟨_,rfl,R1.out,B1.out⟩
 have q2:(k == 2) = false:=by rw [beq_eq_false_iff_ne]; exact c2
 by_cases c3:k = 3
 case pos =>
  rw [if_neg c1,if_neg c2,if_pos c3]
  have LL:=L3
  clear EL L1 L2 L3 L4 L5 L6
  subst c3
  generalize rmI ns ds p = res at *
  go_enter Tryz.func162,Tryz.ntmps162
  go_wp2_with fail
  rw [← hW]
  clear hW
  refine (LL.out _ BW.out).mono ?_
  rintro e w1 ⟨v1,rfl,hr1,hb1⟩
  have R1:=zaa (hr1.wide BW.out.size (Nat.le_refl _))
  have B1:=zaa (zab BW.out hb1 BW.out.size)
  obtain ⟨-,aL,cL,hvL,-⟩:=hr1.rd
  subst hvL
  clear hr1 hb1
  go_wp2
  go_ret2
  exact ⟨_,rfl,R1.out,B1.out⟩
 have q3:(k == 3) = false:=by rw [beq_eq_false_iff_ne]; exact c3
 by_cases c4:k = 4
 case pos =>
  rw [if_neg c1,if_neg c2,if_neg c3,if_pos c4]
  have LL:=L4
  clear EL L1 L2 L3 L4 L5 L6
  subst c4
  generalize lnI ns ds p t = res at *
  go_enter Tryz.func162,Tryz.ntmps162
  go_wp2_with fail
  rw [← hW]
  clear hW
  refine (LL.out _ BW.out).mono ?_
  rintro e w1 ⟨v1,rfl,hr1,hb1⟩
  have R1:=zaa (hr1.wide BW.out.size (Nat.le_refl _))
  have B1:=zaa (zab BW.out hb1 BW.out.size)
  obtain ⟨-,aL,cL,hvL,-⟩:=hr1.rd
  subst hvL
  clear hr1 hb1
  go_wp2
  go_ret2
  exact ⟨_,rfl,R1.out,B1.out⟩
 have q4:(k == 4) = false:=by rw [beq_eq_false_iff_ne]; exact c4
 by_cases c5:k = 5
 case pos =>
  rw [if_neg c1,if_neg c2,if_neg c3,if_neg c4,if_pos c5]
  have LL:=L5
  clear EL L1 L2 L3 L4 L5 L6
  subst c5
  generalize rnI ns ds p t = res at *
  go_enter Tryz.func162,Tryz.ntmps162
  go_wp2_with fail
  rw [← hW]
  clear hW
  refine (LL.out _ BW.out).mono ?_
  rintro e w1 ⟨v1,rfl,hr1,hb1⟩
  have R1:=zaa (hr1.wide BW.out.size (Nat.le_refl _))
  have B1:=zaa (zab BW.out hb1 BW.out.size)
  obtain ⟨-,aL,cL,hvL,-⟩:=hr1.rd
  subst hvL
  clear hr1 hb1
  go_wp2
  go_ret2
  exact ⟨_,rfl,R1.out,B1.out⟩
 have q5:(k == 5) = false:=by rw [beq_eq_false_iff_ne]; exact c5
 rw [if_neg c1,if_neg c2,if_neg c3,if_neg c4,if_neg c5]
 have LL:=L6
 clear EL L1 L2 L3 L4 L5 L6
 generalize cuI ns ds p g = res at *
 go_enter Tryz.func162,Tryz.ntmps162
 go_wp2_with fail
 rw [← hW]
 clear hW
 refine (LL.out _ BW.out).mono ?_
 rintro e w1 ⟨v1,rfl,hr1,hb1⟩
 have R1:=zaa (hr1.wide BW.out.size (Nat.le_refl _))
 have B1:=zaa (zab BW.out hb1 BW.out.size)
 obtain ⟨-,aL,cL,hvL,-⟩:=hr1.rd
 subst hvL
 clear hr1 hb1
 go_wp2
 go_ret2
 exact ⟨_,rfl,R1.out,B1.out⟩
end Go.Proofs.YtkdjfhkalelafaaGreatDoor
