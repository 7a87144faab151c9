/- CrashTwice: by the program. -/
import Derived.Test.YtahiphgmhndgaaaGreatDoorCrI
import Derived.Test.YtahiphgmhndgaaaGreatDoorCrG
import Derived.Test.YtahiphgmhndgaaaGreatDoorDevC
import Derived.Deep.DeepCutAuto
import Derived.Deep.RegionLaw
import Derived.Deep.RegionHeld3
set_option maxRecDepth 100000
set_option maxHeartbeats 16000000
namespace Go.Proofs.YtahiphgmhndgaaaGreatDoor
open Go.RowKit
theorem yaff {w:World} {b:Nat} {t:TypeId} {x y:Value} (h:w.heap[b]?=some (.cells #[x,y] t (0,0))):w.cell? ⟨b,0,none⟩=some x∧w.cell? ⟨b,1,none⟩=some y:=by
 simp[World.cell?,h]
theorem yarw {w w1:World} {vZ vA:Value} {zs gs:List Int} (t:TypeId) (hz:RdI w vZ zs) (ha:RdI w vA gs) (hn:zs.length≤1048576) (hm:gs.length≤1048576) (hb:Below w.heap.size w w1):RdL (w1.alloc (.cells #[vZ,vA] t)) (.slice (some ⟨w1.heap.size,0,none⟩) 2 2) [(vZ,zs),(vA,gs)]:=by
 have hb2:Below w.heap.size w (w1.alloc (.cells #[vZ,vA] t)):=hb.alloc hb.size _;obtain ⟨a,b⟩:=yaff (zag (o:=.cells #[vZ,vA] t) rfl:(w1.alloc (.cells #[vZ,vA] t)).heap[w1.heap.size]?=some (.cells #[vZ,vA] t (0,0)));refine ⟨⟨rfl,_,_,rfl,⟨by simp,fun e=>by cases e⟩,fun _=>⟨_,_,rfl,by simp,fun j hj=>?_⟩⟩,fun k hk=>?_⟩
 ·have:j=0∨j=1:=by simp at hj;omega
  rcases this with rfl | rfl
  ·exact a
  ·exact b
 ·have:k=0∨k=1:=by simp at hk;omega
  rcases this with rfl | rfl
  ·exact ⟨Rd.below hz hb2,hn⟩
  ·exact ⟨Rd.below ha hb2,hm⟩
theorem zpk (i n:Int) (w:World):Calls Tryz.prog 48 #[.int .i64 i,.int .i64 n] w fun e w'=>e=.returned (.bool (decide (0≤i∧i < n)))∧w'=w:=by
 by_cases h0:0≤i
 ·by_cases h1:i < n
  ·rw[decide_eq_true ⟨h0,h1⟩];go_enter Tryz.func48,Tryz.ntmps48;go_wp2;go_ret;exact ⟨rfl,rfl⟩
  ·rw[decide_eq_false (fun h=>h1 h.2)];go_enter Tryz.func48,Tryz.ntmps48;go_wp2;go_ret;exact ⟨rfl,rfl⟩
 ·rw[decide_eq_false (fun h=>h0 h.1)];go_enter Tryz.func48,Tryz.ntmps48;go_wp2;go_ret;exact ⟨rfl,rfl⟩
theorem yakw (ws:List Int) (ps:List St) (es:List Int) (qs:List Se) (hs:List Int) (td:List Mi) (cd vl:Int) (nm:List ByteArray) (fr:Bool) (vZ vA:Value) (zs gs:List Int) (st:Int) :
  ((decide (zs.length≤4096) && decide (gs.length≤4096))=false∧zne ws ps es qs hs td cd vl nm fr zs st gs=(zz,2)) ∨
  (zs.length≤4096∧gs.length≤4096∧¬ cfC ws ps es qs hs td cd vl nm fr [(vZ,zs),(vA,gs)]=0∧zne ws ps es qs hs td cd vl nm fr zs st gs=(zz,cfC ws ps es qs hs td cd vl nm fr [(vZ,zs),(vA,gs)])) ∨
  (zs.length≤4096∧gs.length≤4096∧cfC ws ps es qs hs td cd vl nm fr [(vZ,zs),(vA,gs)]=0∧¬ (0≤st∧st < 201)∧zne ws ps es qs hs td cd vl nm fr zs st gs=(zz,4)) ∨
  (zs.length≤4096∧gs.length≤4096∧cfC ws ps es qs hs td cd vl nm fr [(vZ,zs),(vA,gs)]=0∧(0≤st∧st < 201)∧zne ws ps es qs hs td cd vl nm fr zs st gs=ctD ws ps es qs zs st.toNat gs∧fsB ws ps es qs hs td cd vl nm fr=true∧zaw zs=true∧zaw gs=true):=by
 unfold cfC zne;rw[yanh]
 by_cases c1:4096 < zs.length∨4096 < gs.length
 ·refine .inl ⟨?_,by rw[if_pos c1]⟩
  rcases c1 with c | c
  ·rw[decide_eq_false (by omega:¬ zs.length≤4096)];rfl
  ·rw[decide_eq_false (by omega:¬ gs.length≤4096),Bool.and_false]
 ·have l1:zs.length≤4096:=by omega
  have l2:gs.length≤4096:=by omega
  rw[if_neg c1]
  by_cases c2:fsB ws ps es qs hs td cd vl nm fr=true
  ·rw[if_pos c2,if_pos c2]
   by_cases c3:(zaw zs && zaw gs)=true
   ·rw[if_pos c3];rw[Bool.and_eq_true] at c3
    by_cases c4:0≤st∧st < 201
    ·exact .inr (.inr (.inr ⟨l1,l2,rfl,c4,if_pos ⟨c3.1,c3.2,c4.1,by omega⟩,c2,c3.1,c3.2⟩))
    ·exact .inr (.inr (.inl ⟨l1,l2,rfl,c4,if_neg (fun h=>c4 ⟨h.2.2.1,by omega⟩)⟩))
   ·rw[if_neg c3];exact .inr (.inl ⟨l1,l2,by decide,if_neg (fun h=>c3 (by rw[h.1,h.2.1];rfl))⟩)
  ·rw[if_neg c2,if_neg c2];exact .inr (.inl ⟨l1,l2,by decide,rfl⟩)
theorem zpn (aW aP aS aQ aH aT aN aZ aA:Option Addr) (cW cP cS cQ cH cT cN cZ cA:Nat) (ws:List Int) (ps:List St) (es:List Int) (qs:List Se) (hs:List Int) (td:List Mi) (cd vl:Int) (nm:List ByteArray) (fr:Bool) (zs gs:List Int) (st:Int) (w:World) (b1 b2:Bool) (hb:(b1 && b2)=false)
  (lz:∀ w1,Below w.heap.size w w1→Calls Tryz.prog 31 #[.slice aZ zs.length cZ] w1 fun e w'=>e=.returned (.bool b1)∧w'=w1) (la:∀ w1,Below w.heap.size w w1→Calls Tryz.prog 31 #[.slice aA gs.length cA] w1 fun e w'=>e=.returned (.bool b2)∧w'=w1) :
  Calls Tryz.prog 18 #[.agg #[.slice aW ws.length cW,.slice aP ps.length cP,.slice aS es.length cS,.slice aQ qs.length cQ,.slice aH hs.length cH,.slice aT td.length cT,.int .i64 cd,.int .i64 vl,.slice aN nm.length cN,.bool fr],.slice aZ zs.length cZ,.int .i64 st,.slice aA gs.length cA] w fun e w'=>zis w w' e (zz,2):=by
 have LZ:=zaa lz;have LA:=zaa la;clear lz la
 obtain ⟨V,hV⟩:∃ V,V=((w.alloc (.cells #[.slice aW ws.length cW,.slice aP ps.length cP,.slice aS es.length cS,.slice aQ qs.length cQ,.slice aH hs.length cH,.slice aT td.length cT,.int .i64 cd,.int .i64 vl,.slice aN nm.length cN,.bool fr] 51)).alloc (.cells #[.slice none 0 0,.slice none 0 0,.slice none 0 0,.slice none 0 0,.slice none 0 0,.slice none 0 0,.int .i64 0,.int .i64 0,.slice none 0 0,.bool false] 51)):=⟨_,rfl⟩
 have zV:w.heap.size+2≤V.heap.size:=by rw[hV];simp <;> omega
 have B_V:Hid (Below w.heap.size w V):=by rw[hV];exact (((Below.refl _ _).alloc (by simp <;> omega) _).alloc (by simp <;> omega) _)
 have X0_V:Hid (V.heap[w.heap.size]?=some (.cells #[.slice aW ws.length cW,.slice aP ps.length cP,.slice aS es.length cS,.slice aQ qs.length cQ,.slice aH hs.length cH,.slice aT td.length cT,.int .i64 cd,.int .i64 vl,.slice aN nm.length cN,.bool fr] 51 (0,0))):=by rw[hV];exact (zal (zag rfl))
 have X1_V:Hid (V.heap[w.heap.size+1]?=some (.cells #[.slice none 0 0,.slice none 0 0,.slice none 0 0,.slice none 0 0,.slice none 0 0,.slice none 0 0,.int .i64 0,.int .i64 0,.slice none 0 0,.bool false] 51 (0,0))):=by rw[hV];exact (zag (by simp))
 obtain ⟨d0,d1,d2,d3,d4,d5,d6,d7,d8,d9,g0,g1,g2,g3,g4,g5,g6,g7,g8,g9⟩:=zam X1_V.o
 obtain ⟨wz,hwz⟩:∃ wz,wz=zee V (w.heap.size+1) (.slice none 0 0) (.slice none 0 0) (.slice none 0 0) (.slice none 0 0) (.slice none 0 0) (.slice none 0 0) (.int .i64 0) (.int .i64 0) (.slice none 0 0) (.bool false):=⟨_,rfl⟩
 have Oz:Outside (w.heap.size+1) (w.heap.size+1+1) V wz:=by rw[hwz];exact zeu _ _ _ _ _ _ _ _ _ _ _ _
 have zwz:V.heap.size≤wz.heap.size:=by rw[hwz,zfn];exact Nat.le_refl _
 have Bz:=zaa (B_V.o.trans (Oz.below (B:=w.heap.size) (by omega) B_V.o.size));unfold zee at hwz;clear Oz
 cases b1 with
 | false =>
  go_enter Tryz.func18,Tryz.ntmps18;go_upto_region 1 with fail;rw[← hV];clear hV;go_wp2_with fail;refine (LZ.o V B_V.o).mono ?_;rintro e w' ⟨rfl,hw'⟩;subst w';clear LZ LA B_V;go_wp2;refine bodyPost_ret (v:=.tuple #[.agg #[.slice none 0 0,.slice none 0 0,.slice none 0 0,.slice none 0 0,.slice none 0 0,.slice none 0 0,.int .i64 0,.int .i64 0,.slice none 0 0,.bool false],.int .i64 2]) (by simp[results,Tryz.results18,go_sem,d0,d1,d2,d3,d4,d5,d6,d7,d8,d9]) rfl ?_;rw[← hwz];exact ⟨_,rfl,(RowF.zero _ _).wide (Nat.le_refl _) (by omega),Bz.o⟩
 | true =>
  rw[Bool.true_and] at hb;subst hb;go_enter Tryz.func18,Tryz.ntmps18;go_upto_region 1 with fail;rw[← hV];clear hV;go_wp2_with fail;refine (LZ.o V B_V.o).mono ?_;rintro e w' ⟨rfl,hw'⟩;subst w';go_wp2_with fail;refine (LA.o V B_V.o).mono ?_;rintro e w' ⟨rfl,hw'⟩;subst w';clear LZ LA B_V;go_wp2;refine bodyPost_ret (v:=.tuple #[.agg #[.slice none 0 0,.slice none 0 0,.slice none 0 0,.slice none 0 0,.slice none 0 0,.slice none 0 0,.int .i64 0,.int .i64 0,.slice none 0 0,.bool false],.int .i64 2]) (by simp[results,Tryz.results18,go_sem,d0,d1,d2,d3,d4,d5,d6,d7,d8,d9]) rfl ?_;rw[← hwz];exact ⟨_,rfl,(RowF.zero _ _).wide (Nat.le_refl _) (by omega),Bz.o⟩
theorem zuw (aW aP aS aQ aH aT aN aZ aA:Option Addr) (cW cP cS cQ cH cT cN cZ cA:Nat) (ws:List Int) (ps:List St) (es:List Int) (qs:List Se) (hs:List Int) (td:List Mi) (cd vl:Int) (nm:List ByteArray) (fr:Bool) (zs gs:List Int) (st c:Int) (w:World) (cne:¬ c=0)
  (lz:∀ w1,Below w.heap.size w w1→Calls Tryz.prog 31 #[.slice aZ zs.length cZ] w1 fun e w'=>e=.returned (.bool true)∧w'=w1) (la:∀ w1,Below w.heap.size w w1→Calls Tryz.prog 31 #[.slice aA gs.length cA] w1 fun e w'=>e=.returned (.bool true)∧w'=w1)
  (lf:∀ w1,Below w.heap.size w w1→Calls Tryz.prog 47 #[.agg #[.slice aW ws.length cW,.slice aP ps.length cP,.slice aS es.length cS,.slice aQ qs.length cQ,.slice aH hs.length cH,.slice aT td.length cT,.int .i64 cd,.int .i64 vl,.slice aN nm.length cN,.bool fr],.slice (some ⟨w1.heap.size,0,none⟩) 2 2] (w1.alloc (.cells #[.slice aZ zs.length cZ,.slice aA gs.length cA] 22)) fun e w'=>e=.returned (.int .i64 c)∧Below (w1.alloc (.cells #[.slice aZ zs.length cZ,.slice aA gs.length cA] 22)).heap.size (w1.alloc (.cells #[.slice aZ zs.length cZ,.slice aA gs.length cA] 22)) w') :
  Calls Tryz.prog 18 #[.agg #[.slice aW ws.length cW,.slice aP ps.length cP,.slice aS es.length cS,.slice aQ qs.length cQ,.slice aH hs.length cH,.slice aT td.length cT,.int .i64 cd,.int .i64 vl,.slice aN nm.length cN,.bool fr],.slice aZ zs.length cZ,.int .i64 st,.slice aA gs.length cA] w fun e w'=>zis w w' e (zz,c):=by
 have LZ:=zaa lz;have LA:=zaa la;clear lz la;have LF:=zaa lf;clear lf
 obtain ⟨V,hV⟩:∃ V,V=((w.alloc (.cells #[.slice aW ws.length cW,.slice aP ps.length cP,.slice aS es.length cS,.slice aQ qs.length cQ,.slice aH hs.length cH,.slice aT td.length cT,.int .i64 cd,.int .i64 vl,.slice aN nm.length cN,.bool fr] 51)).alloc (.cells #[.slice none 0 0,.slice none 0 0,.slice none 0 0,.slice none 0 0,.slice none 0 0,.slice none 0 0,.int .i64 0,.int .i64 0,.slice none 0 0,.bool false] 51)):=⟨_,rfl⟩
 have zV:w.heap.size+2≤V.heap.size:=by rw[hV];simp <;> omega
 have B_V:Hid (Below w.heap.size w V):=by rw[hV];exact (((Below.refl _ _).alloc (by simp <;> omega) _).alloc (by simp <;> omega) _)
 have X0_V:Hid (V.heap[w.heap.size]?=some (.cells #[.slice aW ws.length cW,.slice aP ps.length cP,.slice aS es.length cS,.slice aQ qs.length cQ,.slice aH hs.length cH,.slice aT td.length cT,.int .i64 cd,.int .i64 vl,.slice aN nm.length cN,.bool fr] 51 (0,0))):=by rw[hV];exact (zal (zag rfl))
 have X1_V:Hid (V.heap[w.heap.size+1]?=some (.cells #[.slice none 0 0,.slice none 0 0,.slice none 0 0,.slice none 0 0,.slice none 0 0,.slice none 0 0,.int .i64 0,.int .i64 0,.slice none 0 0,.bool false] 51 (0,0))):=by rw[hV];exact (zag (by simp))
 go_enter Tryz.func18,Tryz.ntmps18;go_upto_region 1 with fail;rw[← hV];clear hV;go_wp2_with fail;refine (LZ.o V B_V.o).mono ?_;rintro e w' ⟨rfl,hw'⟩;subst w';go_wp2_with fail;refine (LA.o V B_V.o).mono ?_;rintro e w' ⟨rfl,hw'⟩;subst w';clear LZ LA;obtain ⟨c0_0,c0_1,c0_2,c0_3,c0_4,c0_5,c0_6,c0_7,c0_8,c0_9,-⟩:=zam X0_V.o;go_wp2_with fail;refine (LF.o V B_V.o).mono ?_;rintro e w1 ⟨rfl,hb⟩;clear c0_0 c0_1 c0_2 c0_3 c0_4 c0_5 c0_6 c0_7 c0_8 c0_9;have hb:Below V.heap.size V w1:=zab ((Below.refl _ _).alloc (Nat.le_refl _) _) hb (by simp);have zw1:V.heap.size≤w1.heap.size:=hb.size;have B_w1:=zaa (zab B_V.o hb B_V.o.size);have X0_w1:=zaa (zac X0_V.o hb (zah X0_V.o));have X1_w1:=zaa (zac X1_V.o hb (zah X1_V.o));clear B_V hb X0_V X1_V LF;obtain ⟨d0,d1,d2,d3,d4,d5,d6,d7,d8,d9,g0,g1,g2,g3,g4,g5,g6,g7,g8,g9⟩:=zam X1_w1.o
 obtain ⟨wz,hwz⟩:∃ wz,wz=zee w1 (w.heap.size+1) (.slice none 0 0) (.slice none 0 0) (.slice none 0 0) (.slice none 0 0) (.slice none 0 0) (.slice none 0 0) (.int .i64 0) (.int .i64 0) (.slice none 0 0) (.bool false):=⟨_,rfl⟩
 have Oz:Outside (w.heap.size+1) (w.heap.size+1+1) w1 wz:=by rw[hwz];exact zeu _ _ _ _ _ _ _ _ _ _ _ _
 have zwz:w1.heap.size≤wz.heap.size:=by rw[hwz,zfn];exact Nat.le_refl _
 have Bz:=zaa (B_w1.o.trans (Oz.below (B:=w.heap.size) (by omega) B_w1.o.size));unfold zee at hwz;clear Oz;go_wp2;refine bodyPost_ret (v:=.tuple #[.agg #[.slice none 0 0,.slice none 0 0,.slice none 0 0,.slice none 0 0,.slice none 0 0,.slice none 0 0,.int .i64 0,.int .i64 0,.slice none 0 0,.bool false],.int .i64 c]) (by simp[results,Tryz.results18,go_sem,d0,d1,d2,d3,d4,d5,d6,d7,d8,d9]) rfl ?_;rw[← hwz];exact ⟨_,rfl,(RowF.zero _ _).wide (Nat.le_refl _) (by omega),Bz.o⟩
theorem zng (aW aP aS aQ aH aT aN aZ aA:Option Addr) (cW cP cS cQ cH cT cN cZ cA:Nat) (ws:List Int) (ps:List St) (es:List Int) (qs:List Se) (hs:List Int) (td:List Mi) (cd vl:Int) (nm:List ByteArray) (fr:Bool) (zs gs:List Int) (st:Int) (w:World) (hst:¬ (0≤st∧st < 201))
  (lz:∀ w1,Below w.heap.size w w1→Calls Tryz.prog 31 #[.slice aZ zs.length cZ] w1 fun e w'=>e=.returned (.bool true)∧w'=w1) (la:∀ w1,Below w.heap.size w w1→Calls Tryz.prog 31 #[.slice aA gs.length cA] w1 fun e w'=>e=.returned (.bool true)∧w'=w1)
  (lf:∀ w1,Below w.heap.size w w1→Calls Tryz.prog 47 #[.agg #[.slice aW ws.length cW,.slice aP ps.length cP,.slice aS es.length cS,.slice aQ qs.length cQ,.slice aH hs.length cH,.slice aT td.length cT,.int .i64 cd,.int .i64 vl,.slice aN nm.length cN,.bool fr],.slice (some ⟨w1.heap.size,0,none⟩) 2 2] (w1.alloc (.cells #[.slice aZ zs.length cZ,.slice aA gs.length cA] 22)) fun e w'=>e=.returned (.int .i64 0)∧Below (w1.alloc (.cells #[.slice aZ zs.length cZ,.slice aA gs.length cA] 22)).heap.size (w1.alloc (.cells #[.slice aZ zs.length cZ,.slice aA gs.length cA] 22)) w') :
  Calls Tryz.prog 18 #[.agg #[.slice aW ws.length cW,.slice aP ps.length cP,.slice aS es.length cS,.slice aQ qs.length cQ,.slice aH hs.length cH,.slice aT td.length cT,.int .i64 cd,.int .i64 vl,.slice aN nm.length cN,.bool fr],.slice aZ zs.length cZ,.int .i64 st,.slice aA gs.length cA] w fun e w'=>zis w w' e (zz,4):=by
 have LZ:=zaa lz;have LA:=zaa la;clear lz la;have LF:=zaa lf;have II:=zaa (fun w1=>zpk st 201 w1);rw[decide_eq_false hst] at II;clear lf hst
 obtain ⟨V,hV⟩:∃ V,V=((w.alloc (.cells #[.slice aW ws.length cW,.slice aP ps.length cP,.slice aS es.length cS,.slice aQ qs.length cQ,.slice aH hs.length cH,.slice aT td.length cT,.int .i64 cd,.int .i64 vl,.slice aN nm.length cN,.bool fr] 51)).alloc (.cells #[.slice none 0 0,.slice none 0 0,.slice none 0 0,.slice none 0 0,.slice none 0 0,.slice none 0 0,.int .i64 0,.int .i64 0,.slice none 0 0,.bool false] 51)):=⟨_,rfl⟩
 have zV:w.heap.size+2≤V.heap.size:=by rw[hV];simp <;> omega
 have B_V:Hid (Below w.heap.size w V):=by rw[hV];exact (((Below.refl _ _).alloc (by simp <;> omega) _).alloc (by simp <;> omega) _)
 have X0_V:Hid (V.heap[w.heap.size]?=some (.cells #[.slice aW ws.length cW,.slice aP ps.length cP,.slice aS es.length cS,.slice aQ qs.length cQ,.slice aH hs.length cH,.slice aT td.length cT,.int .i64 cd,.int .i64 vl,.slice aN nm.length cN,.bool fr] 51 (0,0))):=by rw[hV];exact (zal (zag rfl))
 have X1_V:Hid (V.heap[w.heap.size+1]?=some (.cells #[.slice none 0 0,.slice none 0 0,.slice none 0 0,.slice none 0 0,.slice none 0 0,.slice none 0 0,.int .i64 0,.int .i64 0,.slice none 0 0,.bool false] 51 (0,0))):=by rw[hV];exact (zag (by simp))
 go_enter Tryz.func18,Tryz.ntmps18;go_upto_region 1 with fail;rw[← hV];clear hV;go_wp2_with fail;refine (LZ.o V B_V.o).mono ?_;rintro e w' ⟨rfl,hw'⟩;subst w';go_wp2_with fail;refine (LA.o V B_V.o).mono ?_;rintro e w' ⟨rfl,hw'⟩;subst w';clear LZ LA;obtain ⟨c0_0,c0_1,c0_2,c0_3,c0_4,c0_5,c0_6,c0_7,c0_8,c0_9,-⟩:=zam X0_V.o;go_wp2_with fail;refine (LF.o V B_V.o).mono ?_;rintro e w1 ⟨rfl,hb⟩;clear c0_0 c0_1 c0_2 c0_3 c0_4 c0_5 c0_6 c0_7 c0_8 c0_9;have hb:Below V.heap.size V w1:=zab ((Below.refl _ _).alloc (Nat.le_refl _) _) hb (by simp);have zw1:V.heap.size≤w1.heap.size:=hb.size;have B_w1:=zaa (zab B_V.o hb B_V.o.size);have X0_w1:=zaa (zac X0_V.o hb (zah X0_V.o));have X1_w1:=zaa (zac X1_V.o hb (zah X1_V.o));clear B_V hb X0_V X1_V LF;go_wp2_with fail;refine (II.o w1).mono ?_;rintro e w' ⟨rfl,hw'⟩;subst w';clear II;obtain ⟨d0,d1,d2,d3,d4,d5,d6,d7,d8,d9,g0,g1,g2,g3,g4,g5,g6,g7,g8,g9⟩:=zam X1_w1.o
 obtain ⟨wz,hwz⟩:∃ wz,wz=zee w1 (w.heap.size+1) (.slice none 0 0) (.slice none 0 0) (.slice none 0 0) (.slice none 0 0) (.slice none 0 0) (.slice none 0 0) (.int .i64 0) (.int .i64 0) (.slice none 0 0) (.bool false):=⟨_,rfl⟩
 have Oz:Outside (w.heap.size+1) (w.heap.size+1+1) w1 wz:=by rw[hwz];exact zeu _ _ _ _ _ _ _ _ _ _ _ _
 have zwz:w1.heap.size≤wz.heap.size:=by rw[hwz,zfn];exact Nat.le_refl _
 have Bz:=zaa (B_w1.o.trans (Oz.below (B:=w.heap.size) (by omega) B_w1.o.size));unfold zee at hwz;clear Oz;go_wp2;refine bodyPost_ret (v:=.tuple #[.agg #[.slice none 0 0,.slice none 0 0,.slice none 0 0,.slice none 0 0,.slice none 0 0,.slice none 0 0,.int .i64 0,.int .i64 0,.slice none 0 0,.bool false],.int .i64 4]) (by simp[results,Tryz.results18,go_sem,d0,d1,d2,d3,d4,d5,d6,d7,d8,d9]) rfl ?_;rw[← hwz];exact ⟨_,rfl,(RowF.zero _ _).wide (Nat.le_refl _) (by omega),Bz.o⟩
theorem zvn (aW aP aS aQ aH aT aN aZ aA:Option Addr) (cW cP cS cQ cH cT cN cZ cA:Nat) (ws:List Int) (ps:List St) (es:List Int) (qs:List Se) (hs:List Int) (td:List Mi) (cd vl:Int) (nm:List ByteArray) (fr:Bool) (zs gs:List Int) (n:Nat) (W1:List Int) (P1:List St) (E1:List Int) (Q1:List Se) (l:List Mi) (rc:Int) (W3:List Int) (P3:List St) (E3:List Int) (Q3:List Se) (c3:Int) (W4:List Int) (P4:List St) (E4:List Int) (Q4:List Se) (RR R:Fz×Int) (eR:R=if rc=0 then RR else (zz,rc)) (hn:n < 201) (w:World)
  (lz:∀ w1,Below w.heap.size w w1→Calls Tryz.prog 31 #[.slice aZ zs.length cZ] w1 fun e w'=>e=.returned (.bool true)∧w'=w1) (la:∀ w1,Below w.heap.size w w1→Calls Tryz.prog 31 #[.slice aA gs.length cA] w1 fun e w'=>e=.returned (.bool true)∧w'=w1)
  (lf:∀ w1,Below w.heap.size w w1→Calls Tryz.prog 47 #[.agg #[.slice aW ws.length cW,.slice aP ps.length cP,.slice aS es.length cS,.slice aQ qs.length cQ,.slice aH hs.length cH,.slice aT td.length cT,.int .i64 cd,.int .i64 vl,.slice aN nm.length cN,.bool fr],.slice (some ⟨w1.heap.size,0,none⟩) 2 2] (w1.alloc (.cells #[.slice aZ zs.length cZ,.slice aA gs.length cA] 22)) fun e w'=>e=.returned (.int .i64 0)∧Below (w1.alloc (.cells #[.slice aZ zs.length cZ,.slice aA gs.length cA] 22)).heap.size (w1.alloc (.cells #[.slice aZ zs.length cZ,.slice aA gs.length cA] 22)) w')
  (l1:∀ w1 b,Below w.heap.size w w1→w1.heap[b]?=some (.cells #[.slice aZ zs.length cZ] 22 (0,0))→Calls Tryz.prog 92 #[.agg #[.slice aW ws.length cW,.slice aP ps.length cP,.slice aS es.length cS,.slice aQ qs.length cQ],.pointer (some ⟨b,0,none⟩)] w1 fun e w'=>∃ v',e=.returned v'∧RowDev w' w1.heap.size w'.heap.size v' W1 P1 E1 Q1∧Below w1.heap.size w1 w')
  (rp:∀ w1 v,RdDev w1 v W1 P1 E1 Q1→Calls Tryz.prog 50 #[v] w1 fun e w'=>yaae w1 w' e (l,rc))
  (lm:∀ w1 v vL,Below w.heap.size w w1→RdDev w1 v W1 P1 E1 Q1→RdM w1 vL (l.take n)→Calls Tryz.prog 51 #[v,vL] w1 fun e w'=>∃ v',e=.returned (.tuple #[v',.int .i64 c3])∧RowDev w' w1.heap.size w'.heap.size v' W3 P3 E3 Q3∧Below w1.heap.size w1 w')
  (l2:∀ w1 v b,Below w.heap.size w w1→RdDev w1 v W3 P3 E3 Q3→w1.heap[b]?=some (.cells #[.slice aA gs.length cA] 22 (0,0))→Calls Tryz.prog 92 #[v,.pointer (some ⟨b,0,none⟩)] w1 fun e w'=>∃ v',e=.returned v'∧RowDev w' w1.heap.size w'.heap.size v' W4 P4 E4 Q4∧Below w1.heap.size w1 w')
  (rec:∀ w1 v,Below w.heap.size w w1→RdDev w1 v W4 P4 E4 Q4→Calls Tryz.prog 52 #[v] w1 fun e w'=>zis w1 w' e RR) :
  Calls Tryz.prog 18 #[.agg #[.slice aW ws.length cW,.slice aP ps.length cP,.slice aS es.length cS,.slice aQ qs.length cQ,.slice aH hs.length cH,.slice aT td.length cT,.int .i64 cd,.int .i64 vl,.slice aN nm.length cN,.bool fr],.slice aZ zs.length cZ,.int .i64 (n:Int),.slice aA gs.length cA] w fun e w'=>zis w w' e R:=by
 have LZ:=zaa lz;have LA:=zaa la;clear lz la;have LF:=zaa lf;have II:=zaa (fun w1=>zpk (n:Int) 201 w1);rw[decide_eq_true ⟨by omega,by omega⟩] at II;have L1:=zaa l1;have RP:=zaa rp;have LM:=zaa lm;have L2:=zaa l2;have RC:=zaa rec;have ER:=zaa eR;clear lf l1 rp lm l2 rec eR hn;simp only[yaae] at RP
 obtain ⟨V,hV⟩:∃ V,V=((w.alloc (.cells #[.slice aW ws.length cW,.slice aP ps.length cP,.slice aS es.length cS,.slice aQ qs.length cQ,.slice aH hs.length cH,.slice aT td.length cT,.int .i64 cd,.int .i64 vl,.slice aN nm.length cN,.bool fr] 51)).alloc (.cells #[.slice none 0 0,.slice none 0 0,.slice none 0 0,.slice none 0 0,.slice none 0 0,.slice none 0 0,.int .i64 0,.int .i64 0,.slice none 0 0,.bool false] 51)):=⟨_,rfl⟩
 have zV:w.heap.size+2≤V.heap.size:=by rw[hV];simp <;> omega
 have B_V:Hid (Below w.heap.size w V):=by rw[hV];exact (((Below.refl _ _).alloc (by simp <;> omega) _).alloc (by simp <;> omega) _)
 have X0_V:Hid (V.heap[w.heap.size]?=some (.cells #[.slice aW ws.length cW,.slice aP ps.length cP,.slice aS es.length cS,.slice aQ qs.length cQ,.slice aH hs.length cH,.slice aT td.length cT,.int .i64 cd,.int .i64 vl,.slice aN nm.length cN,.bool fr] 51 (0,0))):=by rw[hV];exact (zal (zag rfl))
 have X1_V:Hid (V.heap[w.heap.size+1]?=some (.cells #[.slice none 0 0,.slice none 0 0,.slice none 0 0,.slice none 0 0,.slice none 0 0,.slice none 0 0,.int .i64 0,.int .i64 0,.slice none 0 0,.bool false] 51 (0,0))):=by rw[hV];exact (zag (by simp))
 go_enter Tryz.func18,Tryz.ntmps18;go_upto_region 1 with fail;rw[← hV];clear hV;go_wp2_with fail;refine (LZ.o V B_V.o).mono ?_;rintro e w' ⟨rfl,hw'⟩;subst w';go_wp2_with fail;refine (LA.o V B_V.o).mono ?_;rintro e w' ⟨rfl,hw'⟩;subst w';clear LZ LA;obtain ⟨c0_0,c0_1,c0_2,c0_3,c0_4,c0_5,c0_6,c0_7,c0_8,c0_9,-⟩:=zam X0_V.o;go_wp2_with fail;refine (LF.o V B_V.o).mono ?_;rintro e w1 ⟨rfl,hb⟩;clear c0_0 c0_1 c0_2 c0_3 c0_4 c0_5 c0_6 c0_7 c0_8 c0_9;have hb:Below V.heap.size V w1:=zab ((Below.refl _ _).alloc (Nat.le_refl _) _) hb (by simp);have zw1:V.heap.size≤w1.heap.size:=hb.size;have B_w1:=zaa (zab B_V.o hb B_V.o.size);have X0_w1:=zaa (zac X0_V.o hb (zah X0_V.o));have X1_w1:=zaa (zac X1_V.o hb (zah X1_V.o));clear B_V hb X0_V X1_V LF;go_wp2_with fail;refine (II.o w1).mono ?_;rintro e w' ⟨rfl,hw'⟩;subst w';clear II;go_wp2_with fail;refine (zgz aZ zs.length cZ w1).mono ?_;rintro e w2 ⟨rfl,hw2⟩
 have hb:Below w1.heap.size w1 w2:=by rw[hw2];exact (Below.refl _ _).alloc (Nat.le_refl _) _
 obtain ⟨b1,hb1⟩:∃ b1:Nat,b1=w1.heap.size:=⟨_,rfl⟩
 have K1_w2:Hid (w2.heap[b1]?=some (.cells #[.slice aZ zs.length cZ] 22 (0,0))):=by rw[hw2,hb1];exact zag rfl
 rw[← hb1];clear hb1 hw2;have zw2:w1.heap.size≤w2.heap.size:=hb.size;have B_w2:=zaa (zab B_w1.o hb B_w1.o.size);have X0_w2:=zaa (zac X0_w1.o hb (zah X0_w1.o));have X1_w2:=zaa (zac X1_w1.o hb (zah X1_w1.o));clear hb B_w1 X0_w1 X1_w1;go_wp2_with fail;refine (zgz aA gs.length cA w2).mono ?_;rintro e w3 ⟨rfl,hw3⟩
 have hb:Below w2.heap.size w2 w3:=by rw[hw3];exact (Below.refl _ _).alloc (Nat.le_refl _) _
 obtain ⟨b2,hb2⟩:∃ b2:Nat,b2=w2.heap.size:=⟨_,rfl⟩
 have K2_w3:Hid (w3.heap[b2]?=some (.cells #[.slice aA gs.length cA] 22 (0,0))):=by rw[hw3,hb2];exact zag rfl
 rw[← hb2];clear hb2 hw3;have zw3:w2.heap.size≤w3.heap.size:=hb.size;have B_w3:=zaa (zab B_w2.o hb B_w2.o.size);have X0_w3:=zaa (zac X0_w2.o hb (zah X0_w2.o));have X1_w3:=zaa (zac X1_w2.o hb (zah X1_w2.o));have K1_w3:=zaa (zac K1_w2.o hb (zah K1_w2.o));clear hb B_w2 X0_w2 X1_w2 K1_w2;obtain ⟨c0_0,c0_1,c0_2,c0_3,c0_4,c0_5,c0_6,c0_7,c0_8,c0_9,-⟩:=zam X0_w3.o;go_wp2_with fail;refine (L1.o w3 b1 B_w3.o K1_w3.o).mono ?_;rintro e w4 ⟨v4,rfl,hr,hb⟩;clear c0_0 c0_1 c0_2 c0_3 c0_4 c0_5 c0_6 c0_7 c0_8 c0_9;obtain ⟨iW,iw,iP,ip,iS,is,iQ,iq,ei,-,-⟩:=hr.rd.form
 cases ei
 have RD_w4:=zaa hr.rd;clear hr L1;have zw4:w3.heap.size≤w4.heap.size:=hb.size;have B_w4:=zaa (zab B_w3.o hb B_w3.o.size);have X1_w4:=zaa (zac X1_w3.o hb (zah X1_w3.o));have K2_w4:=zaa (zac K2_w3.o hb (zah K2_w3.o));clear hb B_w3 X1_w3 K2_w3;clear X0_w3 K1_w3
 obtain ⟨w5,hw5⟩:∃ w5,w5=w4.alloc (.cells #[.slice iW W1.length iw,.slice iP P1.length ip,.slice iS E1.length is,.slice iQ Q1.length iq] 45):=⟨_,rfl⟩
 obtain ⟨bD,hbD⟩:∃ bD:Nat,bD=w4.heap.size:=⟨_,rfl⟩
 have hb:Below w4.heap.size w4 w5:=by rw[hw5];exact (Below.refl _ _).alloc (Nat.le_refl _) _
 have XD_w5:Hid (w5.heap[bD]?=some (.cells #[.slice iW W1.length iw,.slice iP P1.length ip,.slice iS E1.length is,.slice iQ Q1.length iq] 45 (0,0))):=by rw[hw5,hbD];exact zag rfl
 have eD:w4.heap.size≤bD:=Nat.le_of_eq hbD.symm;have zw5:w4.heap.size≤w5.heap.size:=hb.size;have B_w5:=zaa (zab B_w4.o hb B_w4.o.size);have X1_w5:=zaa (zac X1_w4.o hb (zah X1_w4.o));have K2_w5:=zaa (zac K2_w4.o hb (zah K2_w4.o));have RD_w5:=zaa (RD_w4.o.below hb);clear hb B_w4 X1_w4 K2_w4 RD_w4;go_upto_region 10 with fail;rw[← hw5,← hbD];clear hw5 hbD;obtain ⟨x0,x1,x2,x3,-⟩:=zaf XD_w5.o;go_wp2_with fail;refine (RP.o w5 _ RD_w5.o).mono ?_;rintro e w6 ⟨vL,rfl,hr,hb⟩;obtain ⟨-,iL,jL,rfl,hcp,-⟩:=id hr.rd;have cpL:=hcp.1;have RL_w6:Hid (RdM w6 (.slice iL l.length jL) l):=hr.rd;clear hr RP hcp x0 x1 x2 x3;have zw6:w5.heap.size≤w6.heap.size:=hb.size;have B_w6:=zaa (zab B_w5.o hb B_w5.o.size);have X1_w6:=zaa (zac X1_w5.o hb (zah X1_w5.o));have K2_w6:=zaa (zac K2_w5.o hb (zah K2_w5.o));have XD_w6:=zaa (zac XD_w5.o hb (zah XD_w5.o));have RD_w6:=zaa (RD_w5.o.below hb);clear hb B_w5 X1_w5 K2_w5 XD_w5 RD_w5
 by_cases cz:rc=0
 case neg =>
  have EE:Hid (R=(zz,rc)):=by unfold Hid;rw[ER.o,if_neg cz]
  clear ER LM L2 RC K2_w6 XD_w6 RD_w6 RL_w6;obtain ⟨d0,d1,d2,d3,d4,d5,d6,d7,d8,d9,g0,g1,g2,g3,g4,g5,g6,g7,g8,g9⟩:=zam X1_w6.o
  obtain ⟨wz,hwz⟩:∃ wz,wz=zee w6 (w.heap.size+1) (.slice none 0 0) (.slice none 0 0) (.slice none 0 0) (.slice none 0 0) (.slice none 0 0) (.slice none 0 0) (.int .i64 0) (.int .i64 0) (.slice none 0 0) (.bool false):=⟨_,rfl⟩
  have Oz:Outside (w.heap.size+1) (w.heap.size+1+1) w6 wz:=by rw[hwz];exact zeu _ _ _ _ _ _ _ _ _ _ _ _
  have zwz:w6.heap.size≤wz.heap.size:=by rw[hwz,zfn];exact Nat.le_refl _
  have Bz:=zaa (B_w6.o.trans (Oz.below (B:=w.heap.size) (by omega) B_w6.o.size));unfold zee at hwz;clear Oz;go_wp2;refine bodyPost_ret (v:=.tuple #[.agg #[.slice none 0 0,.slice none 0 0,.slice none 0 0,.slice none 0 0,.slice none 0 0,.slice none 0 0,.int .i64 0,.int .i64 0,.slice none 0 0,.bool false],.int .i64 rc]) (by simp[results,Tryz.results18,go_sem,d0,d1,d2,d3,d4,d5,d6,d7,d8,d9]) rfl ?_;rw[← hwz,EE.o];exact ⟨_,rfl,(RowF.zero _ _).wide (Nat.le_refl _) (by omega),Bz.o⟩
 subst cz
 have EE:Hid (R=RR):=by unfold Hid;rw[ER.o,if_pos rfl]
 clear ER
 obtain ⟨mn,RT,hmn⟩:∃ mn:Nat,Hid (RdM w6 (.slice iL mn jL) (l.take n))∧Hid ((mn:Int)=min (n:Int) (l.length:Int)∧mn≤l.length):=by
  by_cases cn:n≤l.length
  ·exact ⟨n,znx RL_w6.o cn,by show _=_;omega,cn⟩
  ·refine ⟨l.length,?_,by show _=_;omega,Nat.le_refl _⟩;have q:=znx RL_w6.o (Nat.le_refl _);rw[List.take_length] at q;unfold Hid;rw[List.take_of_length_le (by omega)];exact q
 have m1:=hmn.o.1
 have m2:(mn:Int)≤(jL:Int):=by have:=hmn.o.2;omega
 have m0:(0:Int)≤(mn:Int):=by omega
 have m3:=hmn.o.2;rw[eq_comm] at m1;obtain ⟨x0,x1,x2,x3,-⟩:=zaf XD_w6.o;go_upto_region 13 with fail
 go_cut [16,17] (fun s t wx=>∃ (oW oP oS oQ:Option Addr) (ow op os oq bx lo hi:Nat),t=.int .i64 c3∧s=.pointer (some ⟨bx,0,none⟩)∧Hid (CutD w6 wx (.slice oW W3.length ow) (.slice oP P3.length op) (.slice oS E3.length os) (.slice oQ Q3.length oq) W3 P3 E3 Q3 bx lo hi))
 case first =>
  have SK:Hid (∀ w',Below w6.heap.size w6 w'→w'.cell? ⟨bD,0,none⟩=some (.slice iW W1.length iw)∧w'.cell? ⟨bD,1,none⟩=some (.slice iP P1.length ip)∧w'.cell? ⟨bD,2,none⟩=some (.slice iS E1.length is)∧w'.cell? ⟨bD,3,none⟩=some (.slice iQ Q1.length iq)):=fun w' hb=>by
   obtain ⟨a0,a1,a2,a3,-⟩:=zaf (zac XD_w6.o hb (zah XD_w6.o));exact ⟨a0,a1,a2,a3⟩
  obtain ⟨y0,y1,y2,y3⟩:=SK.o (w6.drew.alloc (.cells #[.slice none 0 0,.slice none 0 0,.slice none 0 0,.slice none 0 0] 45)) (by with_reducible exact zbi (Below.refl _ _).drew _);obtain ⟨u0,u1,u2,u3⟩:=SK.o (w6.alloc (.cells #[.slice none 0 0,.slice none 0 0,.slice none 0 0,.slice none 0 0] 45)) (by with_reducible exact zbi (Below.refl _ _) _)
  go_region_law (first
   | (go_simp;go_at_call 51;refine (LM.o _ _ _ (zab B_w6.o (by repeat (first | with_reducible exact Below.refl _ _ | with_reducible refine zbi ?_ _ | with_reducible refine Below.drew ?_)) B_w6.o.size) (RD_w6.o.below (by repeat (first | with_reducible exact Below.refl _ _ | with_reducible refine zbi ?_ _ | with_reducible refine Below.drew ?_))) (Rd.below RT.o (by repeat (first | with_reducible exact Below.refl _ _ | with_reducible refine zbi ?_ _ | with_reducible refine Below.drew ?_)))).mono ?_;rintro e wf ⟨vf,rfl,hrf,hbf⟩;obtain ⟨oW,ow,oP,op,oS,os,oQ,oq,eo,-,-⟩:=hrf.rd.form;cases eo;have RF:=zaa hrf;have BF:Hid (Below w6.heap.size w6 wf):=zab (b:=_) (by repeat (first | with_reducible exact Below.refl _ _ | with_reducible refine zbi ?_ _ | with_reducible refine Below.drew ?_)) hbf (Below.size (B:=w6.heap.size) (by repeat (first | with_reducible exact Below.refl _ _ | with_reducible refine zbi ?_ _ | with_reducible refine Below.drew ?_)));(first | (have VY:Hid (wf.heap[w6.heap.size]?=some (.cells #[.slice none 0 0,.slice none 0 0,.slice none 0 0,.slice none 0 0] 45 (0,0))):=(hbf.block w6.heap.size (by first | (rw[World.size_alloc];exact Nat.lt_succ_self _) | (show _ < (World.alloc _ _).heap.size;rw[World.size_alloc];exact Nat.lt_succ_self _))).trans (zag rfl);have LT:w6.heap.size < (World.alloc w6 (.cells #[.slice none 0 0,.slice none 0 0,.slice none 0 0,.slice none 0 0] 45)).heap.size:=(by rw[World.size_alloc];exact Nat.lt_succ_self _);have GE:=Nat.le_refl w6.heap.size;obtain ⟨t0,t1,t2,t3,t4,t5,t6,t7⟩:=zaf VY.o) | skip);clear hrf hbf))
  all_goals
   go_wp2_with fail
   go_meet
   first
    | exact ⟨oW,oP,oS,oQ,ow,op,os,oq,_,_,_,rfl,rfl,CutD.new RF.o (Below.size (B:=w6.heap.size) (by repeat (first | with_reducible exact Below.refl _ _ | with_reducible refine zbi ?_ _ | with_reducible refine Below.drew ?_))) (Nat.le_refl _) BF.o⟩
    | exact ⟨oW,oP,oS,oQ,ow,op,os,oq,_,_,_,rfl,rfl,(CutD.new RF.o (Below.size (B:=w6.heap.size) (by repeat (first | with_reducible exact Below.refl _ _ | with_reducible refine zbi ?_ _ | with_reducible refine Below.drew ?_))) (Nat.le_refl _) BF.o).drew⟩
    | exact ⟨oW,oP,oS,oQ,ow,op,os,oq,_,_,_,rfl,rfl,CutD.old LT RF.o (Below.size (B:=w6.heap.size) (by repeat (first | with_reducible exact Below.refl _ _ | with_reducible refine zbi ?_ _ | with_reducible refine Below.drew ?_))) (Nat.le_refl _) BF.o GE VY.o⟩
    | exact ⟨oW,oP,oS,oQ,ow,op,os,oq,_,_,_,rfl,rfl,(CutD.old LT RF.o (Below.size (B:=w6.heap.size) (by repeat (first | with_reducible exact Below.refl _ _ | with_reducible refine zbi ?_ _ | with_reducible refine Below.drew ?_))) (Nat.le_refl _) BF.o GE VY.o).drew⟩
 case rest =>
 obtain ⟨oW,oP,oS,oQ,ow,op,os,oq,bx,lo,hi,rfl,rfl,C⟩:=hcut
 rename World=>w7
 have hb:=C.o.below;have RX:=zaa C.o.row.rd;have XX:=zaa C.o.box;clear x0 x1 x2 x3 m0 m1 m2 m3 hmn RT RL_w6 LM RD_w6 XD_w6;have zw7:w6.heap.size≤w7.heap.size:=hb.size;have B_w7:=zaa (zab B_w6.o hb B_w6.o.size);have X1_w7:=zaa (zac X1_w6.o hb (zah X1_w6.o));have K2_w7:=zaa (zac K2_w6.o hb (zah K2_w6.o));clear hb B_w6 X1_w6 K2_w6;clear C;obtain ⟨x0,x1,x2,x3,-⟩:=zaf XX.o;go_wp2_with fail;refine (L2.o w7 _ b2 B_w7.o RX.o K2_w7.o).mono ?_;rintro e w8 ⟨v8,rfl,hr,hb⟩;clear x0 x1 x2 x3 L2;obtain ⟨rW,rw,rP,rp,rS,rs,rQ,rq,er,-,-⟩:=hr.rd.form
 cases er
 have RE:=zaa hr.rd;clear hr XX RX;have zw8:w7.heap.size≤w8.heap.size:=hb.size;have B_w8:=zaa (zab B_w7.o hb B_w7.o.size);have X1_w8:=zaa (zac X1_w7.o hb (zah X1_w7.o));clear hb B_w7 X1_w7;clear K2_w7;obtain ⟨⟨ws2,ps2,es2,qs2,hs2,td2,cd2,vl2,nm2,fr2⟩,rc2⟩:=RR;simp only[zis] at RC;go_wp2_with fail;refine (RC.o w8 _ B_w8.o RE.o).mono ?_;rintro e w9 ⟨v9,rfl,hr,hb⟩;obtain ⟨qW,qw,qP,qp,qS,qs',qQ,qq,qH,qh,qT,qt,qN,qn,eo⟩:=hr.form;subst eo;have QF:Hid (RowF w9 w8.heap.size w9.heap.size _ ws2 ps2 es2 qs2 hs2 td2 cd2 vl2 nm2 fr2):=hr;clear hr RC RE;have zw9:w8.heap.size≤w9.heap.size:=hb.size;have B_w9:=zaa (zab B_w8.o hb B_w8.o.size);have X1_w9:=zaa (zac X1_w8.o hb (zah X1_w8.o));clear hb B_w8 X1_w8;obtain ⟨d0,d1,d2,d3,d4,d5,d6,d7,d8,d9,g0,g1,g2,g3,g4,g5,g6,g7,g8,g9⟩:=zam X1_w9.o
 obtain ⟨wz,hwz⟩:∃ wz,wz=zee w9 (w.heap.size+1) (.slice qW ws2.length qw) (.slice qP ps2.length qp) (.slice qS es2.length qs') (.slice qQ qs2.length qq) (.slice qH hs2.length qh) (.slice qT td2.length qt) (.int .i64 cd2) (.int .i64 vl2) (.slice qN nm2.length qn) (.bool fr2):=⟨_,rfl⟩
 have Oz:Outside (w.heap.size+1) (w.heap.size+1+1) w9 wz:=by rw[hwz];exact zeu _ _ _ _ _ _ _ _ _ _ _ _
 have zwz:w9.heap.size≤wz.heap.size:=by rw[hwz,zfn];exact Nat.le_refl _
 have Bz:=zaa (B_w9.o.trans (Oz.below (B:=w.heap.size) (by omega) B_w9.o.size));have QZ:=zaa (QF.o.outside Oz (by omega) (Nat.le_refl _));unfold zee at hwz;clear Oz QF;go_wp2;refine bodyPost_ret (v:=.tuple #[.agg #[.slice qW ws2.length qw,.slice qP ps2.length qp,.slice qS es2.length qs',.slice qQ qs2.length qq,.slice qH hs2.length qh,.slice qT td2.length qt,.int .i64 cd2,.int .i64 vl2,.slice qN nm2.length qn,.bool fr2],.int .i64 rc2]) (by simp[results,Tryz.results18,go_sem,d0,d1,d2,d3,d4,d5,d6,d7,d8,d9]) rfl ?_;rw[← hwz,EE.o];exact ⟨_,rfl,QZ.o.wide (by omega) zwz,Bz.o⟩
theorem zkw (v:Value) (ws:List Int) (ps:List St) (es:List Int) (qs:List Se) (hs:List Int) (td:List Mi) (cd vl:Int) (nm:List ByteArray) (fr:Bool) (vZ:Value) (zs:List Int) (st:Int) (vA:Value) (gs:List Int) (w:World) (h:RdF w v ws ps es qs hs td cd vl nm fr) (hz:RdI w vZ zs) (ha:RdI w vA gs) (hws:ws.length≤1048576) (hps:ps.length≤1048576) (hes:es.length≤1048576) (hqs:qs.length≤1048576) (hhs:hs.length≤1048576) (htd:td.length≤1048576) (hnm:nm.length≤1048576) (hzl:zs.length≤1048576) (hgl:gs.length≤1048576) (hS:SB w) (hT:TS w) (hE:ED w) (hF:FD w) (hN:NW w) :
  Calls Tryz.prog 18 #[v,vZ,.int .i64 st,vA] w fun e w'=>zis w w' e (zne ws ps es qs hs td cd vl nm fr zs st gs):=by
 have lf:=fun w1 (hb:Below w.heap.size w w1)=>zja v ws ps es qs hs td cd vl nm fr (.slice (some ⟨w1.heap.size,0,none⟩) 2 2) [(vZ,zs),(vA,gs)] (w1.alloc (.cells #[vZ,vA] 22)) (h.below (hb.alloc hb.size _)) (yarw 22 hz ha hzl hgl hb) hws hps hes hqs hhs htd hnm (by simp) (hS.below (hb.alloc hb.size _)) (hT.below (hb.alloc hb.size _)) (hE.below (hb.alloc hb.size _)) (hF.below (hb.alloc hb.size _))
 have ll:=fun (vK:Value) (ks:List Int) (hk:RdI w vK ks) (hkl:ks.length≤1048576) w1 (hb:Below w.heap.size w w1)=>zei vK ks w1 (Rd.below hk hb) hkl
 have lz:=ll vZ zs hz hzl;have la:=ll vA gs ha hgl;clear ll;have CC:=yakw ws ps es qs hs td cd vl nm fr vZ vA zs gs st;have HZ:=hz;have HA:=ha;obtain ⟨aZ,cZ,rfl,-⟩:=hz.shape;obtain ⟨aA,cA,rfl,-⟩:=ha.shape;obtain ⟨aW,cW,aP,cP,aS,cS,aQ,cQ,aH,cH,aT,cT,aN,cN,rfl,d1,-⟩:=id h
 rcases CC with ⟨nl,eR⟩ | ⟨hl,hg,cne,eR⟩ | ⟨hl,hg,c0,hst,eR⟩ | ⟨hl,hg,c0,hst,eR,y,k1,k2⟩
 ·rw[eR];exact zpn aW aP aS aQ aH aT aN aZ aA cW cP cS cQ cH cT cN cZ cA ws ps es qs hs td cd vl nm fr zs gs st w _ _ nl lz la
 ·rw[eR];rw[decide_eq_true hl] at lz;rw[decide_eq_true hg] at la;exact zuw aW aP aS aQ aH aT aN aZ aA cW cP cS cQ cH cT cN cZ cA ws ps es qs hs td cd vl nm fr zs gs st _ w cne lz la lf
 ·rw[eR];rw[c0] at lf;rw[decide_eq_true hl] at lz;rw[decide_eq_true hg] at la;exact zng aW aP aS aQ aH aT aN aZ aA cW cP cS cQ cH cT cN cZ cA ws ps es qs hs td cd vl nm fr zs gs st w hst lz la lf
 ·rw[eR];rw[c0] at lf;rw[decide_eq_true hl] at lz;rw[decide_eq_true hg] at la
  obtain ⟨n,rfl⟩:∃ n:Nat,st=(n:Int):=⟨st.toNat,by omega⟩
  have Y:=yadu y;have p1:=yaoh Y.pm zs;have q1:=yadt Y.bl zs;have a0:akC (cwW ws ps zs) [] (cwE es qs zs) []=0:=yauy (by rw[p1,q1];rfl) (by simp);have pl:zzr (cwW ws ps zs) [] (cwE es qs zs) []=(rpL (cwW ws ps zs) [],rpC (cwW ws ps zs) []):=if_pos a0;have ok:=zyz ((rpL (cwW ws ps zs) []).take n) (cwW ws ps zs) [] (cwE es qs zs) [] p1 q1 (fun m hm=>ztp _ _ m (List.mem_of_mem_take hm))
  have em:ms ((rpL (cwW ws ps zs) []).take n) (cwW ws ps zs) [] (cwE es qs zs) []=ctM (cwW ws ps zs) (cwE es qs zs) n:=by
   have l:=zky (cwW ws ps zs) [];exact yarl (by rw[List.length_take];omega) (by rw[p1,q1,show yaev ((rpL (cwW ws ps zs) []).take n)=true from decide_eq_true (fun _ hk=>ztp _ _ _ (List.mem_of_mem_take (List.getElem_mem hk)))];rfl)
  have s1:=zbz p1;have s2:=zbt q1;have ok2:pmB (ctM (cwW ws ps zs) (cwE es qs zs) n).W (ctM (cwW ws ps zs) (cwE es qs zs) n).P=true∧zbp (ctM (cwW ws ps zs) (cwE es qs zs) n).E (ctM (cwW ws ps zs) (cwE es qs zs) n).Q=true:=ok;have s3:=zbz ok2.1;have s4:=zbt ok2.2;have p4:=yaoh ok2.1 gs;have q4:=yadt ok2.2 gs;have s5:=zbz p4;have s6:=zbt q4;refine zvn aW aP aS aQ aH aT aN aZ aA cW cP cS cQ cH cT cN cZ cA ws ps es qs hs td cd vl nm fr zs gs n (cwW ws ps zs) [] (cwE es qs zs) [] (rpL (cwW ws ps zs) []) (rpC (cwW ws ps zs) []) (ctM (cwW ws ps zs) (cwE es qs zs) n).W (ctM (cwW ws ps zs) (cwE es qs zs) n).P (ctM (cwW ws ps zs) (cwE es qs zs) n).E (ctM (cwW ws ps zs) (cwE es qs zs) n).Q (ctM (cwW ws ps zs) (cwE es qs zs) n).c (cwW (ctM (cwW ws ps zs) (cwE es qs zs) n).W (ctM (cwW ws ps zs) (cwE es qs zs) n).P gs) [] (cwE (ctM (cwW ws ps zs) (cwE es qs zs) n).E (ctM (cwW ws ps zs) (cwE es qs zs) n).Q gs) [] (recR (cwW (ctM (cwW ws ps zs) (cwE es qs zs) n).W (ctM (cwW ws ps zs) (cwE es qs zs) n).P gs) [] (cwE (ctM (cwW ws ps zs) (cwE es qs zs) n).E (ctM (cwW ws ps zs) (cwE es qs zs) n).Q gs) []) _ rfl (by omega) w lz la lf ?_ ?_ ?_ ?_ ?_
  ·exact fun w1 b hb hK=>zlm _ _ b 22 ws ps es qs zs w1 (d1.below hb) (Rd.below HZ hb) hK (hN.below hb) hws hps hes hqs (by omega) Y.pm Y.bl k1
  ·intro w1 v hr;have q:=zfv v _ _ _ _ w1 hr (by omega) (by simp) (by omega) (by simp);rw[pl] at q;exact q
  ·intro w1 v vL hb hr hL;have q:=zha v vL _ _ _ _ _ w1 (hS.below hb) hr hL (by omega) (by simp) (by omega) (by simp) (by have l:=zky (cwW ws ps zs) [];rw[List.length_take];omega);rw[em] at q;exact q
  ·exact fun w1 v b hb hr hK=>zlm v _ b 22 _ _ _ _ gs w1 hr (Rd.below HA hb) hK (hN.below hb) (by omega) (by omega) (by omega) (by omega) (by omega) ok2.1 ok2.2 k2
  ·exact fun w1 v hb hr=>zou v _ _ _ _ w1 hr (by omega) (by simp) (by omega) (by simp) (hS.below hb) (hT.below hb) (hE.below hb) (hF.below hb)
end Go.Proofs.YtahiphgmhndgaaaGreatDoor
