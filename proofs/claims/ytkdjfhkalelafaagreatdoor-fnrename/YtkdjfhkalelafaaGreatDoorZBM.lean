/- Several texts laid together: RdF, PlB. -/
import Derived.Test.YtkdjfhkalelafaaGreatDoorZAW
import Derived.Test.YtkdjfhkalelafaaGreatDoorZBL
import Derived.Test.YtkdjfhkalelafaaGreatDoorZAN
import Derived.Deep.RegionLaw
import Derived.Test.YtkdjfhkalelafaaGreatDoorZAL
import Derived.Test.YtkdjfhkalelafaaGreatDoorZAE
import Derived.Maps.OwnSet
import Derived.Deep.LoopGhost
namespace Go.Proofs.YtkdjfhkalelafaaGreatDoor
open Go.RowKit
theorem zrk {w:World} {base:Nat} {e:TypeId} {size:Nat} {v:Value} {n:Nat} {xs:List Value} (h:w.ownsRow base e size v n xs) (hn:0 < n):∃ b c,v = .slice (some ⟨b,0,none⟩) n c ∧ n ≤ c:=by
 rcases (zad h).shape with ⟨_,e,_⟩ | ⟨b,c,rfl,hc,_⟩
 ·omega
 ·exact ⟨b,c,rfl,hc⟩
theorem yair (ls:List Int) (k:Nat):denZ (wdI ls (240 + 3 * (k:Int))) (wdI ls (240 + 3 * (k:Int) + 1)) (wdI ls (240 + 3 * (k:Int) + 2)) = zfi ls k ∧ zom (wdI ls (240 + 3 * (k:Int))) (wdI ls (240 + 3 * (k:Int) + 1)) (wdI ls (240 + 3 * (k:Int) + 2)) = zbs ls k:=⟨rfl,rfl⟩
theorem yasa (ls:List Int) (n j:Nat) (h:n + j < ls.length):ls[n + j] = wdI ls ((n:Int) + (j:Int)):=by
 have:=yapo h
 rw [← this]
 congr 1
theorem yatv (ls:List Int) (i:Nat) (hi:i < 16) (hl:ls.length = 336) (j:Nat) (hj:j < 11):(zdh ls)[48 + 12 * i + j]? = (zdm ls i).cs[j]?:=by
 rw [zcu ls (48 + 12 * i + j) (by omega),yasa ls (48 + 12 * i) j (by omega),show (((48 + 12 * i:Nat):Int) + (j:Int)) = 48 + 12 * (i:Int) + (j:Int) by omega]
 rcases (show j = 0 ∨ j = 1 ∨ j = 2 ∨ j = 3 ∨ j = 4 ∨ j = 5 ∨ j = 6 ∨ j = 7 ∨ j = 8 ∨ j = 9 ∨ j = 10 by omega) with rfl | rfl | rfl | rfl | rfl | rfl | rfl | rfl | rfl | rfl | rfl
 ·simp [zdm,Ino.cs]
 all_goals rfl
set_option maxRecDepth 100000 in
set_option maxHeartbeats 4000000 in
theorem zea (v:Value) (ws:List Int) (ps:List St) (w:World) (h:RdPm w v ws ps) (hw:ws.length ≤ 1048576) (hp:ps.length ≤ 1048576) (hT:TS w) (hE:ED w) (hF:FD w) :
  Calls Tryz.prog 6 #[v] w fun e w' => ∃ v',e = .returned (.tuple #[v',.int .i64 (riC ws ps)]) ∧ RowIm w' w.heap.size w'.heap.size v' (riN ws ps) (riD ws ps) ∧ Below w.heap.size w w':=by
 have HR:=zaa h
 have LS:=zaa (fun w1 h => zpv v ws ps w1 h hw hp)
 have T:=zaa hT
 have E:=zaa hE
 have F:=zaa hF
 obtain ⟨vW,vP,rfl,h1,h2⟩:=h
 obtain ⟨aW,cW,rfl,_,_⟩:=h1.shape
 obtain ⟨aP,cP,rfl,_,_⟩:=h2.shape
 clear h1 h2 hT hE hF
 obtain ⟨W1,hW1⟩:∃ W1,W1 = (w.alloc (.cells #[.slice aW ws.length cW,.slice aP ps.length cP] 26)).alloc (.cells #[.slice none 0 0,.slice none 0 0] 42):=⟨_,rfl⟩
 have hz1:W1.heap.size = w.heap.size + 1 + 1:=by rw [hW1]; simp
 have CA:Hid (∀ w',Below W1.heap.size W1 w' → w'.cell? ⟨w.heap.size,0,none⟩ = some (.slice aW ws.length cW) ∧ w'.cell? ⟨w.heap.size,1,none⟩ = some (.slice aP ps.length cP)):=fun w' hb => by
  have:w'.heap[w.heap.size]? = some (.cells #[.slice aW ws.length cW,.slice aP ps.length cP] 26 (0,0)):=(hb.block _ (by omega)).trans (by rw [hW1]; exact zak (zah rfl))
  exact ⟨(zac this).1,(zac this).2.1⟩
 have CR:Hid (∀ w',Below W1.heap.size W1 w' → w'.heap[w.heap.size + 1]? = some (.cells #[.slice none 0 0,.slice none 0 0] 42 (0,0))):=fun w' hb => (hb.block _ (by omega)).trans (by
  rw [hW1]
  have:=zah (w:=w.alloc (.cells #[.slice aW ws.length cW,.slice aP ps.length cP] 26)) (o:=.cells #[.slice none 0 0,.slice none 0 0] 42) rfl
  rw [World.size_alloc] at this
  exact this)
 have BW:Hid (Below w.heap.size w W1):=by rw [hW1]; exact ((Below.refl _ _).alloc (Nat.le_refl _) _).alloc (by simp) _
 have hz0:w.heap.size + 1 < W1.heap.size:=by omega
 clear hz1
 obtain ⟨x0,x1⟩:=CA.out W1 (Below.refl _ _)
 cases c1:pmB ws ps with
 | false =>
  obtain ⟨E1,E2,E3⟩:=yats c1
  obtain ⟨S1,S2⟩:=zzv c1
  rw [S1,S2] at LS
  rw [E1,E2,E3]
  clear c1 E1 E2 E3 S1 S2
  go_enter Tryz.func6,Tryz.ntmps6
  go_wp2_with fail
  rw [← hW1]
  clear hW1
  refine (LS.out _ (HR.out.below BW.out)).mono ?_
  rintro e w1 ⟨v1,rfl,_,hb1⟩
  have B1:=zaa hb1
  clear x0 x1 hb1
  have CB:=zaa (CR.out _ B1.out)
  obtain ⟨p0,p1,p2,p3⟩:=zac CB.out
  have BR:Hid (Below w.heap.size w ((w1.setCell ⟨w.heap.size + 1,0,none⟩ (.slice none 0 0)).setCell ⟨w.heap.size + 1,1,none⟩ (.slice none 0 0))):=((zab BW.out B1.out BW.out.size).setCell (by simp only; omega) _).setCell (by simp only; omega) _
  go_wp2
  refine bodyPost_ret (v:=.tuple #[.agg #[.slice none 0 0,.slice none 0 0],.int .i64 1]) (by simp [results,Tryz.results6,go_sem,p0,p1]) rfl ?_
  exact ⟨_,rfl,zjz _ _ _,BR.out⟩
 | true =>
 have C1:=zaa c1
 obtain ⟨S1,S2⟩:=yakx c1
 rw [S1,S2] at LS
 have L336:=zaa (show (zcg ws ps).length = 336 by rw [zck]; exact (zes c1).1)
 have WR:=zaa (fun z => zop c1 z)
 have NO:=zaa (fun q => yagi C1.out q)
 have YES:=zaa (fun q => yatq C1.out q)
 have RB:=zaa (show riB (zcg ws ps) = (wdI (zcg ws ps) 0 == 7 && (zcm (zcg ws ps) 24 && zcb (zbe (zcg ws ps) 16) (zbi (zcg ws ps) 24))) from rfl)
 have LI:=zaa (fun v w1 h hT hE hF => zdu v (zbe (zcg ws ps) 16) (zbi (zcg ws ps) 24) w1 h (by rw [zco]; omega) (by rw [zbw]; omega) hT hE hF (zzz C1.out 16) (zpf _ 24))
 clear c1 S1 S2
 generalize riC ws ps = rc at *
 generalize riN ws ps = rn at *
 generalize riD ws ps = rd at *
 generalize zcg ws ps = ls at *
 go_enter Tryz.func6,Tryz.ntmps6
 go_wp2_with fail
 rw [← hW1]
 clear hW1
 refine (LS.out _ (HR.out.below BW.out)).mono ?_
 rintro e w1 ⟨v1,rfl,hr1,hb1⟩
 have B1:=zaa hb1
 have hzz:W1.heap.size ≤ w1.heap.size:=hb1.size
 obtain ⟨b,c,rfl,hcap⟩:=zrk hr1.1 (by have:=L336.out; omega)
 obtain ⟨_,_,_,hbl,_,hcl⟩:=hr1.at
 have HC:Hid (∀ w',Below w1.heap.size w1 w' → ∀ j,j < 336 → w'.cell? ⟨b,j,none⟩ = (zdh ls)[j]?):=fun w' hb j hj => (hb.cell (p:=⟨b,j,none⟩) hbl).trans (hcl j (by have:=L336.out; omega))
 have c336:336 ≤ c:=by have:=L336.out; omega
 simp only [L336.out]
 clear hr1 hb1 hcl hcap x0 x1 LS
 have START:Hid (RimI w1 (w1.alloc (.cells #[.slice none 0 0,.slice none 0 0] 42)) w1.heap.size (.slice none 0 0) (.slice none 0 0) (zbe ls 0) []):=⟨zah rfl,World.ownsRow_nil _ _ _ _,World.ownsRow_nil _ _ _ _,(Below.refl _ _).alloc (Nat.le_refl _) _,Nat.le_refl _⟩
 go_wp2_with fail
 go_loopg [20] 16 (fun g i wr => ∃ k:Nat,k + g = 16 ∧ i = .int .i64 k ∧ Hid (∃ vI vD,RimI w1 wr w1.heap.size vI vD (zbe ls k) []))
 case atStart => exact ⟨0,rfl,rfl,_,_,START.out⟩
 case round =>
  obtain ⟨k,hk,rfl,J⟩:=hrel
  obtain ⟨vI,vD,I⟩:=J.out
  have I:=zaa I
  have k0:(0:Int) ≤ (k:Int):=by omega
  clear J START
  by_cases hlt:k < 16
  ·have k1:(k:Int) < 16:=by omega
   obtain ⟨n,hn⟩:∃ n:Nat,n = 48 + 12 * k:=⟨_,rfl⟩
   have wm:IntKind.i64.wrap (12 * (k:Int)) = 12 * (k:Int):=by rw [IntKind.wrap_i64]; omega
   have wa:IntKind.i64.wrap (48 + 12 * (k:Int)) = (n:Int):=by rw [IntKind.wrap_i64]; omega
   have a0:(0:Int) ≤ (n:Int):=by omega
   have a1:(n:Int) ≤ 336:=by omega
   have a2:(n:Int) ≤ (c:Int):=by omega
   have a3:¬ c = n:=by omega
   have LRI:=zaa (fun w2 (hb:Below wr.heap.size wr w2) => zsz b n (336 - n) (c - n) (zdm ls k) w2 (by omega) (by omega) (Nat.lt_of_lt_of_le hbl (zab I.out.b hb I.out.z).size) (fun j hj => by
    have:=HC.out w2 (zab I.out.b hb I.out.z) (n + j) (by omega)
    rw [this,hn]
    exact yatv ls k hlt L336.out j hj))
   have MN:=zaa (zpj ls k)
   have ML:=zco ls k
   unfold Ino.v at LRI
   clear hn
   generalize zdm ls k = x at *
   obtain ⟨m0,m1,_,_⟩:=zac I.out.m
   have hzI:=I.out.z
   go_wp2_with fail
   go_region_law (first
     | (go_simp; go_at_call 21; refine (LRI.out _ (by repeat (first | with_reducible exact BF.out | with_reducible exact Below.refl _ _ | with_reducible refine Below.drew ?_))).mono ?_; rintro e w2 ⟨rfl,hb2⟩; have BF:Hid (Below wr.heap.size wr w2):=zts (by repeat (first | with_reducible exact BF.out | with_reducible exact Below.refl _ _ | with_reducible refine Below.drew ?_)) hb2; clear hb2; have IA:=zaa ((I.out.below BF.out).below ((Below.refl _ _).alloc (Nat.le_refl _) (.cells #[.int .i64 x.kind,.int .i64 x.size,.int .i64 x.links,.int .i64 x.m0,.int .i64 x.m1,.int .i64 x.m2,.int .i64 x.m3,.int .i64 x.m4,.int .i64 x.m5,.int .i64 x.m6,.int .i64 x.m7] 66))); have RX:=zaa (yapt w2 x); obtain ⟨e0,e1,_,_⟩:=zac (I.out.below BF.out).m; obtain ⟨f0,f1,_,_⟩:=zac IA.out.m)
     | (refine zam rfl (.tmp 24) (.tmp 31) 39 rfl w1.heap.size 66 (.agg #[.int .i64 0,.int .i64 0,.int .i64 0,.int .i64 0,.int .i64 0,.int .i64 0,.int .i64 0,.int .i64 0,.int .i64 0,.int .i64 0,.int .i64 0]) 11 88 Tryz.underlying39 yaky rfl (by decide) _ _ _ rfl IA.out.i _ 1 _ rfl RX.out (zvx _) (by simp [maxLen]; omega) (by omega) IA.out.z ?_; intro vN wN hownN hgrN; obtain ⟨bN,cN,rfl,_⟩:=zrk hownN (by omega); have GG:=zaa (IA.out.growI x hownN hgrN); obtain ⟨g0,g1,g2,g3⟩:=zac GG.out.1; clear hownN hgrN))
   all_goals
    have G:=zaa GG.out.2
    rw [← MN.out] at G
    simp only [zco] at G
    go_wp2
    go_roundg (16 - (k + 1))
    case measure => omega
    case rel => exact ⟨k + 1,by omega,by go_num,_,_,G.out⟩
  ·obtain rfl:k = 16:=by omega
   have SE:Hid (∃ vI vD,RimI w1 wr w1.heap.size vI vD (zbe ls 16) (zbi ls 0)):=⟨vI,vD,I.out⟩
   have AG0:Hid (∀ j,j < 0 → zbs ls j = true):=fun j h => absurd h (by omega)
   have BB:=zaa (zab BW.out B1.out BW.out.size)
   clear I
   go_wp2_with fail
   go_loopg [35] 24 (fun g i wq => ∃ k:Nat,k + g = 24 ∧ i = .int .i64 k ∧ Hid ((∃ vI vD,RimI w1 wq w1.heap.size vI vD (zbe ls 16) (zbi ls k)) ∧ ∀ j,j < k → zbs ls j = true))
   case atStart => exact ⟨0,rfl,rfl,SE.out,AG0.out⟩
   case round =>
    obtain ⟨k,hk,rfl,J⟩:=hrel
    obtain ⟨vI,vD,I⟩:=J.out.1
    have I:=zaa I
    have AG:=zaa J.out.2
    have k0:(0:Int) ≤ (k:Int):=by omega
    clear J SE AG0
    by_cases hlt:k < 24
    ·have k1:(k:Int) < 24:=by omega
     obtain ⟨n,hn⟩:∃ n:Nat,n = 240 + 3 * k:=⟨_,rfl⟩
     have wm:IntKind.i64.wrap (3 * (k:Int)) = 3 * (k:Int):=by rw [IntKind.wrap_i64]; omega
     have wa:IntKind.i64.wrap (240 + 3 * (k:Int)) = (n:Int):=by rw [IntKind.wrap_i64]; omega
     have a0:(0:Int) ≤ (n:Int):=by omega
     have a1:(n:Int) ≤ 336:=by omega
     have a2:(n:Int) ≤ (c:Int):=by omega
     have a3:¬ c = n:=by omega
     have r1:=WR.out (240 + 3 * (k:Int) + 1)
     have r2:=WR.out (240 + 3 * (k:Int) + 2)
     have HX:Hid (∀ w2,Below wr.heap.size wr w2 → ∀ j:Nat,j < 3 → w2.cell? ⟨b,n + j,none⟩ = some (.int .i64 (wdI ls (240 + 3 * (k:Int) + (j:Int))))):=fun w2 hb j hj => by
      rw [HC.out w2 (zab I.out.b hb I.out.z) (n + j) (by omega),zcu ls (n + j) (by have:=L336.out; omega),yasa ls n j (by have:=L336.out; omega),show ((n:Int) + (j:Int)) = 240 + 3 * (k:Int) + (j:Int) by omega]
     have LRD:=zaa (fun w2 (hb:Below wr.heap.size wr w2) => zpp b n (336 - n) (c - n) (wdI ls (240 + 3 * (k:Int))) (wdI ls (240 + 3 * (k:Int) + 1)) (wdI ls (240 + 3 * (k:Int) + 2)) w2 (by omega) (by omega) (Nat.lt_of_lt_of_le hbl (zab I.out.b hb I.out.z).size) (by have:=HX.out w2 hb 0 (by omega); simpa using this) (by have:=HX.out w2 hb 1 (by omega); simpa using this) (by have:=HX.out w2 hb 2 (by omega); simpa using this) (F.out.below (zab BB.out (zab I.out.b hb I.out.z) BB.out.size)) (by omega) (by omega))
     simp only [(yair ls k).1,(yair ls k).2] at LRD
     have AGN:Hid (zbs ls k = true → ∀ j,j < k + 1 → zbs ls j = true):=fun q j h => by
      by_cases e:j = k
      ·subst e; exact q
      ·exact AG.out j (by omega)
     have MN:=zaa (zjl ls k)
     have ML:=zbw ls k
     have GF:Hid (zbs ls k = false → zcm ls 24 = false):=fun q => zih (n:=24) hlt q
     clear hn HX r1 r2
     generalize zfi ls k = x at *
     generalize zbs ls k = gd at *
     go_wp2_with fail
     refine (LRD.out _ (Below.refl _ _)).mono ?_
     rintro e w2 ⟨⟨s,rfl,hs⟩,hb2⟩
     have B2:=zaa hb2
     clear LRD hb2
     have B3:=zaa (zaw B2.out (.cells #[.int .i64 x.dir,.string s,.int .i64 x.child] 69))
     have hz2:wr.heap.size ≤ w2.heap.size:=B2.out.size
     have hz3:w1.heap.size ≤ wr.heap.size:=I.out.z
     cases gd with
     | false =>
      clear hs AGN MN ML
      have CB:=zaa (CR.out _ (zts B1.out (zab I.out.b B3.out I.out.z)))
      obtain ⟨p0,p1,p2,p3⟩:=zac CB.out
      have EE:=zaa (NO.out (by rw [RB.out,GF.out rfl]; simp))
      have BR:Hid (Below w.heap.size w (((w2.alloc (.cells #[.int .i64 x.dir,.string s,.int .i64 x.child] 69)).setCell ⟨w.heap.size + 1,0,none⟩ (.slice none 0 0)).setCell ⟨w.heap.size + 1,1,none⟩ (.slice none 0 0))):=((zab BB.out (zab I.out.b B3.out I.out.z) BB.out.size).setCell (by simp only; omega) _).setCell (by simp only; omega) _
      go_wp2
      refine bodyPost_ret (v:=.tuple #[.agg #[.slice none 0 0,.slice none 0 0],.int .i64 3]) (by simp [results,Tryz.results6,go_sem,p0,p1]) rfl ?_
      obtain ⟨E1,E2,E3⟩:=EE.out
      rw [E1,E2,E3]
      exact ⟨_,rfl,zjz _ _ _,BR.out⟩
     | true =>
      obtain rfl:=hs rfl
      have AG2:=zaa (AGN.out rfl)
      clear hs GF AGN
      have XB:Hid (BoxZ 69 wr (w2.alloc (.cells #[.int .i64 x.dir,.string x.name,.int .i64 x.child] 69)) w2.heap.size [.int .i64 x.dir,.string x.name,.int .i64 x.child]):=BoxZ.new B2.out
      have e0:=(XB.out.cell 0).1
      have e1:=(XB.out.cell 1).1
      have e2:=(XB.out.cell 2).1
      simp only [List.getElem?_cons_zero,List.getElem?_cons_succ] at e0 e1 e2
      have IR:=zaa (I.out.below B3.out)
      obtain ⟨n0,n1,_,_⟩:=zac IR.out.m
      have IA:=zaa (IR.out.below ((Below.refl _ _).alloc (Nat.le_refl _) (.cells #[.int .i64 x.dir,.string x.name,.int .i64 x.child] 69)))
      have RX:=zaa (yabg (w2.alloc (.cells #[.int .i64 x.dir,.string x.name,.int .i64 x.child] 69)) x)
      simp only [World.size_alloc] at RX
      have hzA:=IA.out.z
      simp only [World.size_alloc] at hzA
      go_wp2_with (at_builtin; refine zae _ rfl (.tmp 51) (.tmp 53) 40 rfl w1.heap.size 69 (.agg #[.int .i64 0,.string ⟨#[]⟩,.int .i64 0]) 3 32 Tryz.underlying40 znb rfl (by decide) _ _ _ rfl IA.out.d _ 1 _ rfl RX.out (zhr _) (by simp [maxLen]; omega) (by omega) IA.out.z ?_)
      intro vN wN hownN hgrN
      obtain ⟨bN,cN,rfl,_⟩:=zrk hownN (by omega)
      obtain ⟨g1,g2⟩:=IA.out.growD x (by rw [zbw]; exact hownN) hgrN
      have G:=zaa g2
      rw [← MN.out] at G
      clear n0 n1 g2 IA RX hownN hgrN ML MN
      obtain ⟨n0,n1,n2,n3⟩:=zac g1
      clear g1
      go_wp2
      go_roundg (24 - (k + 1))
      case measure => omega
      case rel => exact ⟨k + 1,by omega,by go_num,⟨_,_,G.out⟩,AG2.out⟩
    ·obtain rfl:k = 24:=by omega
     have EB:=zaa (zhc (ls:=ls) (n:=24) AG.out)
     rw [EB.out,Bool.true_and] at RB
     rcases (zad I.out.i).shape with ⟨_,e,_⟩ | ⟨b1,c1,rfl,_,_⟩
     ·rw [zco] at e; omega
     rcases (zad I.out.d).shape with ⟨_,e,_⟩ | ⟨b2,c2,rfl,_,_⟩
     ·rw [zbw] at e; omega
     simp only [zco,zbw] at I
     have R0:Hid (RowIm wr w1.heap.size wr.heap.size (.agg #[.slice (some ⟨b1,0,none⟩) 16 c1,.slice (some ⟨b2,0,none⟩) 24 c2]) (zbe ls 16) (zbi ls 24)):=⟨_,_,rfl,zad I.out.i,zad I.out.d⟩
     obtain ⟨n0,n1,_,_⟩:=zac I.out.m
     have hzr:w1.heap.size ≤ wr.heap.size:=I.out.z
     have BWr:=zaa (zab BB.out I.out.b BB.out.size)
     have CB:=zaa (CR.out _ (zts B1.out I.out.b))
     have IM:=zaa I.out.m
     have IL:=I.out.lt
     have h0:wr.cell? ⟨b,0,none⟩ = some (.int .i64 (wdI ls 0)):=by
      rw [HC.out wr I.out.b 0 (by omega),zcu ls 0 (by have:=L336.out; omega),yasa ls 0 0 (by have:=L336.out; omega)]
      rfl
     clear AG EB I HC WR
     by_cases z:wdI ls 0 = 7
     case neg =>
      have q:(wdI ls 0 != 7) = true:=by rw [bne_iff_ne]; exact z
      have EE:=zaa (NO.out (by rw [RB.out,show (wdI ls 0 == 7) = false by rw [beq_eq_false_iff_ne]; exact z]; simp))
      obtain ⟨p0,p1,p2,p3⟩:=zac CB.out
      have BR:Hid (Below w.heap.size w ((wr.setCell ⟨w.heap.size + 1,0,none⟩ (.slice none 0 0)).setCell ⟨w.heap.size + 1,1,none⟩ (.slice none 0 0))):=(BWr.out.setCell (by simp only; omega) _).setCell (by simp only; omega) _
      clear z
      go_wp2
      refine bodyPost_ret (v:=.tuple #[.agg #[.slice none 0 0,.slice none 0 0],.int .i64 3]) (by simp [results,Tryz.results6,go_sem,p0,p1]) rfl ?_
      obtain ⟨E1,E2,E3⟩:=EE.out
      rw [E1,E2,E3]
      exact ⟨_,rfl,zjz _ _ _,BR.out⟩
     have q:(wdI ls 0 != 7) = false:=by rw [z]; rfl
     rw [z] at RB
     have LI2:=zaa (LI.out _ wr R0.out.rd (T.out.below BWr.out) (E.out.below BWr.out) (F.out.below BWr.out))
     clear LI
     generalize zcb (zbe ls 16) (zbi ls 24) = ib at *
     rw [z] at h0
     clear z q
     go_wp2_with fail
     refine LI2.out.mono ?_
     rintro e w5 ⟨rfl,hb5⟩
     have hz5:wr.heap.size ≤ w5.heap.size:=hb5.size
     have B5:=zaa (zab BWr.out hb5 BWr.out.size)
     have R5:=zaa (R0.out.below hb5 (Nat.le_refl _))
     have CB5:=zaa ((hb5.block _ (by omega)).trans CB.out)
     have IM5:=zaa ((hb5.block _ IL).trans IM.out)
     clear n0 n1 h0 hb5 R0 CB IM LI2
     obtain ⟨n0,n1,_,_⟩:=zac IM5.out
     obtain ⟨p0,p1,p2,p3⟩:=zac CB5.out
     cases ib with
     | false =>
      have EE:=zaa (NO.out (by rw [RB.out]; rfl))
      have BR:Hid (Below w.heap.size w ((w5.setCell ⟨w.heap.size + 1,0,none⟩ (.slice none 0 0)).setCell ⟨w.heap.size + 1,1,none⟩ (.slice none 0 0))):=(B5.out.setCell (by simp only; omega) _).setCell (by simp only; omega) _
      go_wp2
      refine bodyPost_ret (v:=.tuple #[.agg #[.slice none 0 0,.slice none 0 0],.int .i64 3]) (by simp [results,Tryz.results6,go_sem,p0,p1]) rfl ?_
      obtain ⟨E1,E2,E3⟩:=EE.out
      rw [E1,E2,E3]
      exact ⟨_,rfl,zjz _ _ _,BR.out⟩
     | true =>
      have EE:=zaa (YES.out (by rw [RB.out]; rfl))
      have BR:Hid (Below w.heap.size w ((w5.setCell ⟨w.heap.size + 1,0,none⟩ (.slice (some ⟨b1,0,none⟩) 16 c1)).setCell ⟨w.heap.size + 1,1,none⟩ (.slice (some ⟨b2,0,none⟩) 24 c2))):=(B5.out.setCell (by simp only; omega) _).setCell (by simp only; omega) _
      have RF:=zaa (yadk (yafr R5.out CB5.out (.slice (some ⟨b1,0,none⟩) 16 c1) (.slice (some ⟨b2,0,none⟩) 24 c2)) (lo':=w.heap.size) (hi':=((w5.setCell ⟨w.heap.size + 1,0,none⟩ (.slice (some ⟨b1,0,none⟩) 16 c1)).setCell ⟨w.heap.size + 1,1,none⟩ (.slice (some ⟨b2,0,none⟩) 24 c2)).heap.size) (by have:=BB.out.size; omega) (by simp; omega))
      clear CB5 R5 IM5
      go_wp2
      refine bodyPost_ret (v:=.tuple #[.agg #[.slice (some ⟨b1,0,none⟩) 16 c1,.slice (some ⟨b2,0,none⟩) 24 c2],.int .i64 0]) (by simp [results,Tryz.results6,go_sem,p0,p1]) rfl ?_
      obtain ⟨E1,E2,E3⟩:=EE.out
      rw [E1,E2,E3]
      exact ⟨_,rfl,RF.out,BR.out⟩
end Go.Proofs.YtkdjfhkalelafaaGreatDoor

namespace Go.Proofs.YtkdjfhkalelafaaGreatDoor
open Go.RowKit Go.Maps Go.MapKept Go.ChangeMaps Go.WideShapes
open Go.WideElems (Fit rd rg pl rd_val elemAt)
theorem zsq {H:Type} {P:Program} {k e t:TypeId} {R:Value → Option (DataW H × List MemPlace)} {w:World} {b n:Nat} {D:DataW H} (h:w.ownsMap P k R b n D) (ht:P.underlying t = some (.map k e)) (ty:TypeId) :
  ∃ w',(Builtin.clear_ #[t] ty #[.map (some b)]).run P w = .ok (.tuple #[]) w' ∧ w'.ownsMap P k R b 0 (.map []) ∧ w.grownBy w' (some b):=by
 obtain ⟨es,clock,hb,F,hs,rfl⟩:=h
 refine ⟨setBlock w b (.map #[] clock),?_,⟨#[],clock,heap_setBlock_same hb _,⟨by simp,stamped_empty clock,by simp⟩,Nat.le_refl _,rfl⟩,⟨rfl,rfl,rfl,by simp [setBlock],fun i _ hi => heap_setBlock_other hb _ (fun e => hi (by rw [e]))⟩⟩
 simp [Builtin.clear_,run_underlying ht,MapKept.run_getObj_map hb,MapKept.run_setObj_map _ hb,Result.andThen,setBlock]
theorem mapU:Tryz.prog.underlying 76 = some (.map 9 3):=by kernel_rfl
theorem strU:Tryz.prog.underlying 9 = some .string:=by kernel_rfl
theorem intU:Tryz.prog.underlying 3 = some (.int .i64):=by kernel_rfl
theorem strK:Keyed Tryz.prog 9:=string_keyed strU
theorem intZ (w:World):(zeroValue 3).run Tryz.prog w = .ok (.int .i64 0) w:=by kernel_rfl
def Mp (w:World) (b:Nat) (D:DataW Unit):Prop:=w.ownsMap Tryz.prog 9 (plainElem Tryz.prog 3) b 4096 D
theorem Mp.lt {w:World} {b:Nat} {D:DataW Unit} (h:Mp w b D):b < w.heap.size:=World.ownsMap.lt h
theorem Mp.below {w w':World} {b:Nat} {D:DataW Unit} (h:Mp w b D) (hb:Below w.heap.size w w'):Mp w' b D:=by
 have hl:=h.lt
 obtain ⟨es,cl,q,r⟩:=h
 exact ⟨es,cl,(hb.block b hl).trans q,r⟩
theorem grownB {w w':World} (h:Below w.heap.size w w') (row:Option Nat):w.grownBy w' row:=⟨h.os,h.tape,h.output,h.size,fun i hi _ => h.block i hi⟩
theorem Mp.ne {w:World} {b:Nat} {D:DataW Unit} (h:Mp w b D) {a:Addr} {v:Value} (hc:w.cell? a = some v):some a.block ≠ some b:=by
 obtain ⟨es,cl,q,_⟩:=h
 intro e
 injection e with e
 subst e
 simp [World.cell?,q] at hc
theorem Mp.neg {w:World} {b:Nat} {D:DataW Unit} (h:Mp w b D) {g:Nat} {cs:Array Value} {t:TypeId} {fr} (hc:w.heap[g]? = some (.cells cs t fr)):some g ≠ some b:=by
 obtain ⟨es,cl,q,_⟩:=h
 intro e
 injection e with e
 subst e
 rw [q] at hc
 cases hc
theorem FD.grown {w w':World} {b:Nat} {D:DataW Unit} (h:FD w) (m:Mp w b D) (hg:w.grownBy w' (some b)):FD w':=by
 have hl:=h.lt
 obtain ⟨t,fr,h⟩:=h
 exact ⟨t,fr,(hg.block _ hl (m.neg h)).trans h⟩
set_option maxRecDepth 100000 in
set_option maxHeartbeats 4000000 in
theorem zqd (v:Value) (ws:List Ino) (ps:List Den) (d:Int) (b:Nat) (D:DataW Unit) (w:World) (h:RdIm w v ws ps) (hi:zcb ws ps = true) (hm:Mp w b D) (hF:FD w) :
  Calls Tryz.prog 64 #[.map (some b),v,.int .i64 d] w fun e w' => e = .returned (.tuple #[]) ∧ Mp w' b (mpD ps d ps.length) ∧ w.grownBy w' (some b):=by
 have HL:=zaa (zat hi).2.1
 have HF:=zaa (fun j hj => yacf hi j hj)
 have HN:=zaa (fun j hj => zfq hi j hj)
 obtain ⟨vW,vP,rfl,h1,h2⟩:=h
 obtain ⟨aW,cW,rfl,_⟩:=h1.shape
 obtain ⟨aP,cP,rfl,_,hcP⟩:=h2.shape
 have HZ:=zaa hcP
 clear h1 h2 hcP hi
 obtain ⟨W,hW⟩:∃ W,W = w.alloc (.cells #[.slice aW ws.length cW,.slice aP ps.length cP] 42):=⟨_,rfl⟩
 have BW:Hid (Below w.heap.size w W):=by rw [hW]; exact (Below.refl _ _).alloc (Nat.le_refl _) _
 have M:Hid (Mp W b D):=hm.below BW.out
 have hbl:b < w.heap.size:=hm.lt
 have BL:=zaa hbl
 have CA:Hid (W.cell? ⟨w.heap.size,1,none⟩ = some (.slice aP ps.length cP)):=by
  have:W.heap[w.heap.size]? = some (.cells #[.slice aW ws.length cW,.slice aP ps.length cP] 42 (0,0)):=by rw [hW]; exact zah rfl
  exact (zac this).2.1
 have F:=zaa (hF.below BW.out)
 have MW:=zaa hm
 clear hF hm hbl
 go_enter Tryz.func64,Tryz.ntmps64
 go_wp2_with fail
 rw [← hW]
 clear hW
 obtain ⟨w1,hrun,hown1,hg1⟩:=zsq M.out mapU 0
 rw [hrun]
 clear hrun
 have x1:=hg1.cell CA.out (M.out.ne CA.out)
 have F1:=zaa (F.out.grown M.out hg1)
 have G1:=zaa ((grownB BW.out (some b)).trans hg1)
 have hz1:w.heap.size ≤ w1.heap.size:=G1.out.size
 have O1:=zaa hown1
 clear hown1 hg1 CA M F
 go_wp2
 go_loopg [6,7,12] ps.length (fun g _ _ i wr => ∃ k:Nat,k + g = ps.length ∧ i = .int .i64 k ∧ Hid (wr.ownsMap Tryz.prog 9 (plainElem Tryz.prog 3) b k (mpD ps d k)) ∧ Hid (w.grownBy wr (some b)) ∧ Hid (FD wr))
 case atStart => exact ⟨0,by omega,rfl,O1,G1,F1⟩
 case round =>
  obtain ⟨k,hk,rfl,O,G,F⟩:=hrel
  have k0:(0:Int) ≤ (k:Int):=by omega
  by_cases hlt:k < ps.length
  ·obtain ⟨bP,o,rfl,hbl,hcell⟩:=HZ.out (by omega)
   obtain ⟨a0,a1,a2⟩:=hcell k hlt
   have d0:=G.out.cell a0 (MW.out.ne a0)
   have d1:=G.out.cell a1 (MW.out.ne a1)
   have d2:=G.out.cell a2 (MW.out.ne a2)
   have k1:(k:Int) < (ps.length:Int):=by omega
   have DF:=zmt ps[k]
   have FC:=HF.out k hlt
   have PE:=HN.out k hlt
   have STEP:=zaa (show mpD ps d (k + 1) = if decide (0 ≤ ps[k].child) && ps[k].dir == d then (mpD ps d k).put (zpw ps[k].name) (.lit (.int .i64 (k:Int))) else mpD ps d k by
    rw [← zbh hlt,← ziz hlt]; rfl)
   have k4096:k < 4096:=by have:=HL.out; omega
   have hg24:gk - 1 < gk:=by omega
   have hk':(k + 1) + (gk - 1) = ps.length:=by omega
   clear a0 a1 a2 hcell
   generalize ps[k] = x at *
   have BA:Hid (Below wr.heap.size wr (wr.alloc (.cells #[.int .i64 x.dir,.string x.name,.int .i64 x.child] 69))):=(Below.refl _ _).alloc (Nat.le_refl _) _
   have OB:Hid ((wr.alloc (.cells #[.int .i64 x.dir,.string x.name,.int .i64 x.child] 69)).ownsMap Tryz.prog 9 (plainElem Tryz.prog 3) b k (mpD ps d k)):=O.out.alloc _
   have FB:=zaa (F.out.below BA.out)
   have GB:=zaa (G.out.trans (grownB BA.out (some b)))
   obtain ⟨f0,f1,f2⟩:=FD.cells FB.out
   clear O F G
   cases hf:x.freeB with
   | true =>
    have O2:Hid ((wr.alloc (.cells #[.int .i64 x.dir,.string x.name,.int .i64 x.child] 69)).ownsMap Tryz.prog 9 (plainElem Tryz.prog 3) b (k + 1) (mpD ps d (k + 1))):=by
     unfold Hid
     rw [STEP.out,if_neg (by rw [hf] at FC; rw [← FC]; simp)]
     exact OB.out.mono (by omega)
    rw [hf] at DF
    clear FC PE STEP OB BA hf
    go_wp2
    go_roundg (gk - 1)
    case measure => exact hg24
    case rel => exact ⟨k + 1,hk',by go_num,O2,GB,FB⟩
   | false =>
    have fc:0 ≤ x.child:=by
     rw [hf] at FC
     have:=FC.symm
     simpa using this
    have hn:x.name.size ≤ maxLen:=by
     rcases PE with q | q
     ·omega
     ·have:=(zdc q.2.2.1).2.1
      unfold maxLen
      omega
    rw [hf] at DF
    rw [decide_eq_true fc,Bool.true_and] at STEP
    clear FC PE hf
    cases q:(x.dir == d) with
    | false =>
     have O2:Hid ((wr.alloc (.cells #[.int .i64 x.dir,.string x.name,.int .i64 x.child] 69)).ownsMap Tryz.prog 9 (plainElem Tryz.prog 3) b (k + 1) (mpD ps d (k + 1))):=by
      unfold Hid
      rw [STEP.out,if_neg (by rw [q]; decide)]
      exact OB.out.mono (by omega)
     clear STEP OB BA
     go_wp2
     go_roundg (gk - 1)
     case measure => exact hg24
     case rel => exact ⟨k + 1,hk',by go_num,O2,GB,FB⟩
    | true =>
     rw [q,if_pos rfl] at STEP
     have key:Hid (keyOf Tryz.prog 9 (.string x.name) = some (zpw x.name)):=WideMaps.keyOf_string_mk strU hn
     clear BA hn fc
     go_wp2_with (at_mapUpdate; refine wpList_mapUpdate_own _ rfl _ _ _ 76 rfl 9 3 strK mapU _ b k _ rfl OB.out (by unfold maxLen; omega) _ _ _ rfl rfl key.out _ [] (plainElem_int intU (WalkArith.wf_i64 (by omega))) ?_)
     intro wN hownN hgrN
     rw [← STEP.out] at hownN
     have O2:=zaa hownN
     have F2:=zaa (FB.out.grown (OB.out.mono (by omega)) hgrN)
     have G2:=zaa (GB.out.trans hgrN)
     clear hownN hgrN OB FB GB STEP
     go_wp2
     go_roundg (gk - 1)
     case measure => exact hg24
     case rel => exact ⟨k + 1,hk',by go_num,O2,G2,F2⟩
  ·obtain rfl:k = ps.length:=by omega
   go_wp2
   refine bodyPost_end (v:=.tuple #[]) (by simp [results,Tryz.results64,go_sem]) rfl ?_
   exact ⟨rfl,O.out.mono (by have:=HL.out; omega),G.out⟩
end Go.Proofs.YtkdjfhkalelafaaGreatDoor
