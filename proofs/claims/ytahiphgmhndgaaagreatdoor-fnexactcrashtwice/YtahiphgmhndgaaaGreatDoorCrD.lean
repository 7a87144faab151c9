/- CrashTwice: by the model. -/
import Derived.Test.YtahiphgmhndgaaaGreatDoorZBL
import Derived.Test.YtahiphgmhndgaaaGreatDoorZAP
import Derived.Deep.RegionLaw
set_option maxRecDepth 100000
set_option maxHeartbeats 16000000
namespace Go.Proofs.YtahiphgmhndgaaaGreatDoor
open Go.RowKit
theorem yalx {w:World} {b:Nat} {t:TypeId} {x y z u a b' c d:Value} (h:w.heap[b]?=some (.cells #[x,y,z,u] t (0,0))):(zix w b a b' c d).heap[b]?=some (.cells #[a,b',c,d] t (0,0)):=zsm (zmb h a b') c d
theorem yada {l:List Int} (h:∀ x∈l,zao x=true) (k:Nat):zao (l[k]?.getD 0)=true:=by
 rcases Nat.lt_or_ge k l.length with q | q
 ·rw[List.getElem?_eq_getElem q];exact h _ (List.getElem_mem q)
 ·rw[List.getElem?_eq_none q];rfl
theorem zyu {a:Nat}:∀ (ps:List St) (s:Int×Int),zao s.1=true→(∀ p∈ps,zao p.val=true)→zao (zed a s ps).1=true
 | [],s,h,_=>h
 | p :: ps,s,h,hp=>by
  show zao (zed a (zhf a s p) ps).1=true
  refine zyu ps _ ?_ (fun q hq=>hp q (List.mem_cons_of_mem _ hq));unfold zhf
  split
  ·exact hp p List.mem_cons_self
  ·exact h
theorem yaag (us:List Nat) (zs:List Int) {ps:List St} {ws:List Int} (h:∀ x∈ws,zao x=true) (hp:∀ p∈ps,zao p.val=true):∀ i,∀ x∈spW us zs ps ws i,zao x=true
 | 0=>h
 | i+1=>fun x hx=>by
  rw[spW] at hx
  rcases List.mem_or_eq_of_mem_set hx with q | rfl
  ·exact yaag us zs h hp i x q
  ·exact zyu ps _ (yada (yaag us zs h hp i) _) hp
theorem zsr {a:Nat}:∀ (ps:List Se) (s:Int×Int),zao s.1=true→(∀ p∈ps,zao p.val=true)→zao (zec a s ps).1=true
 | [],s,h,_=>h
 | p :: ps,s,h,hp=>by
  show zao (zec a (zeh a s p) ps).1=true
  refine zsr ps _ ?_ (fun q hq=>hp q (List.mem_cons_of_mem _ hq));unfold zeh
  split
  ·exact hp p List.mem_cons_self
  ·exact h
theorem ztt (us:List Nat) (zs:List Int) {ps:List Se} {ws:List Int} (h:∀ x∈ws,zao x=true) (hp:∀ p∈ps,zao p.val=true):∀ i,∀ x∈spE us zs ps ws i,zao x=true
 | 0=>h
 | i+1=>fun x hx=>by
  rw[spE] at hx
  rcases List.mem_or_eq_of_mem_set hx with q | rfl
  ·exact ztt us zs h hp i x q
  ·exact zsr ps _ (yada (ztt us zs h hp i) _) hp
theorem yaoh {ws:List Int} {ps:List St} (h:pmB ws ps=true) (zs:List Int):pmB (cwW ws ps zs) []=true:=by
 obtain ⟨a,b,c,d⟩:=zlt.1 h;exact zlt.2 ⟨(yaic ws ps zs).trans a,by simp,yaag _ _ c (fun p hp=>(d p hp).2) _,fun p hp=>by cases hp⟩
theorem yadt {es:List Int} {qs:List Se} (h:zbp es qs=true) (zs:List Int):zbp (cwE es qs zs) []=true:=by
 obtain ⟨a,b,c,d⟩:=zkf.1 h;exact zkf.2 ⟨(yaln es qs zs).trans a,by simp,ztt _ _ c (fun p hp=>(d p hp).2) _,fun p hp=>by cases hp⟩
def ctM (W E:List Int) (n:Nat):MR:=mr ((rpL W []).take n) W [] E []
theorem yavk (W E:List Int) (n:Nat):mr ((rpL W []).take n) W [] E []=⟨0,(ctM W E n).W,(ctM W E n).P,(ctM W E n).E,(ctM W E n).Q⟩:=by
 have l:=zky W [];have k:=yadg ((rpL W []).take n) W [] E [] (fun m hm=>yaac W [] m (List.mem_of_mem_take hm)) (by simp only[List.length_nil,List.length_take];omega);unfold ctM;rw[k]
def ctD (ws:List Int) (ps:List St) (es:List Int) (qs:List Se) (zs:List Int) (n:Nat) (gs:List Int):Fz×Int:=if rpC (cwW ws ps zs) []=0 then recR (cwW (ctM (cwW ws ps zs) (cwE es qs zs) n).W (ctM (cwW ws ps zs) (cwE es qs zs) n).P gs) [] (cwE (ctM (cwW ws ps zs) (cwE es qs zs) n).E (ctM (cwW ws ps zs) (cwE es qs zs) n).Q gs) [] else (zz,rpC (cwW ws ps zs) [])
def zne (ws:List Int) (ps:List St) (es:List Int) (qs:List Se) (hs:List Int) (td:List Mi) (cd vl:Int) (nm:List ByteArray) (fr:Bool) (zs:List Int) (st:Int) (gs:List Int):Fz×Int:=if 4096 < zs.length∨4096 < gs.length then (zz,2) else if fsB ws ps es qs hs td cd vl nm fr=true then (if zaw zs=true∧zaw gs=true∧(0≤st∧st≤200) then ctD ws ps es qs zs st.toNat gs else (zz,4)) else (zz,1)
theorem yaej:∀ (l:List Mi) (m:Nat),(mis l).take (m*3)=mis (l.take m)
 | l,0=>by simp[mis]
 | [],m+1=>by simp[mis]
 | x :: l,m+1=>by
  rw[show (m+1)*3=m*3+3 by omega,List.take_succ_cons];have q:=yaej l m;unfold mis at q;simp[mis,Mi.cells];exact q
theorem znx {w:World} {ao:Option Addr} {c:Nat} {l:List Mi} {m:Nat} (h:RdM w (.slice ao l.length c) l) (hm:m≤l.length):RdM w (.slice ao m c) (l.take m):=by
 have q:=Rd.take h hm;rw[yaej] at q;unfold RdM;rw[show (l.take m).length=m by rw[List.length_take];omega];exact q
theorem zjz (v:Value) (ws:List Int) (ps:List St) (es:List Int) (qs:List Se) (hs:List Int) (td:List Mi) (cd vl:Int) (nm:List ByteArray) (fr:Bool) (vZ:Value) (zs:List Int) (st:Int) (vA:Value) (gs:List Int) (w:World) (h:RdF w v ws ps es qs hs td cd vl nm fr) (hz:RdI w vZ zs) (ha:RdI w vA gs) (hws:ws.length≤1048576) (hps:ps.length≤1048576) (hes:es.length≤1048576) (hqs:qs.length≤1048576) (hhs:hs.length≤1048576) (htd:td.length≤1048576) (hnm:nm.length≤1048576) (hzl:zs.length≤1048576) (hal:gs.length≤1048576) :
  Calls Tryz.prog 17 #[v,vZ,.int .i64 st,vA] w fun e w'=>zis w w' e (zne ws ps es qs hs td cd vl nm fr zs st gs):=by
 have LF:=zaa (fun w1 (hb:Below w.heap.size w w1)=>zmv v ws ps es qs hs td cd vl nm fr w1 (h.below hb) hws hps hes hqs hhs htd hnm);have KZ:=zaa (fun w1 (hb:Below w.heap.size w w1)=>zhw vZ zs w1 (Rd.below hz hb) hzl);have KA:=zaa (fun w1 (hb:Below w.heap.size w w1)=>zhw vA gs w1 (Rd.below ha hb) hal);have CR:=zaa (fun w1 (hb:Below w.heap.size w w1) vd (ws:List Int) (ps:List St) (es:List Int) (qs:List Se) (hd:RdDev w1 vd ws ps es qs) a1 a2 a3 a4 hp hbk hk=>zhl vd vZ ws ps es qs zs w1 hd (Rd.below hz hb) a1 a2 a3 a4 hzl hp hbk hk);have CA:=zaa (fun w1 (hb:Below w.heap.size w w1) vd (ws:List Int) (ps:List St) (es:List Int) (qs:List Se) (hd:RdDev w1 vd ws ps es qs) a1 a2 a3 a4 hp hbk hk=>zhl vd vA ws ps es qs gs w1 hd (Rd.below ha hb) a1 a2 a3 a4 hal hp hbk hk);obtain ⟨aZ,cZ,rfl,-⟩:=hz.shape;obtain ⟨aA,cA,rfl,-⟩:=ha.shape;obtain ⟨aW,cW,aP,cP,aS,cS,aQ,cQ,aH,cH,aT,cT,aN,cN,rfl,d1,-⟩:=id h;have HD:=zaa (fun w1 (hb:Below w.heap.size w w1)=>d1.below hb);clear h d1 hz ha
 by_cases c1:4096 < zs.length
 ·have c1':(4096:Int) < (zs.length:Int):=by omega
  have eR:Hid (zne ws ps es qs hs td cd vl nm fr zs st gs=(zz,2)):=if_pos (.inl c1);clear LF KZ KA CR CA HD c1
  obtain ⟨V,hV⟩:∃ V,V=((w.alloc (.cells #[.slice aW ws.length cW,.slice aP ps.length cP,.slice aS es.length cS,.slice aQ qs.length cQ,.slice aH hs.length cH,.slice aT td.length cT,.int .i64 cd,.int .i64 vl,.slice aN nm.length cN,.bool fr] 51)).alloc (.cells #[.slice none 0 0,.slice none 0 0,.slice none 0 0,.slice none 0 0,.slice none 0 0,.slice none 0 0,.int .i64 0,.int .i64 0,.slice none 0 0,.bool false] 51)):=⟨_,rfl⟩
  have zV:w.heap.size+2≤V.heap.size:=by rw[hV];simp <;> omega
  have B_V:Hid (Below w.heap.size w V):=by rw[hV];exact (((Below.refl _ _).alloc (by simp <;> omega) _).alloc (by simp <;> omega) _)
  have X0_V:Hid (V.heap[w.heap.size]?=some (.cells #[.slice aW ws.length cW,.slice aP ps.length cP,.slice aS es.length cS,.slice aQ qs.length cQ,.slice aH hs.length cH,.slice aT td.length cT,.int .i64 cd,.int .i64 vl,.slice aN nm.length cN,.bool fr] 51 (0,0))):=by rw[hV];exact (zal (zag rfl))
  have X1_V:Hid (V.heap[w.heap.size+1]?=some (.cells #[.slice none 0 0,.slice none 0 0,.slice none 0 0,.slice none 0 0,.slice none 0 0,.slice none 0 0,.int .i64 0,.int .i64 0,.slice none 0 0,.bool false] 51 (0,0))):=by rw[hV];exact (zag (by simp))
  go_enter Tryz.func17,Tryz.ntmps17;go_upto_region 1 with fail;rw[← hV];clear hV;obtain ⟨d0,d1,d2,d3,d4,d5,d6,d7,d8,d9,g0,g1,g2,g3,g4,g5,g6,g7,g8,g9⟩:=zam X1_V.o
  obtain ⟨w1,hw1⟩:∃ w1,w1=((((((((((V.setCell ⟨w.heap.size+1,0,none⟩ (.slice none 0 0)).setCell ⟨w.heap.size+1,1,none⟩ (.slice none 0 0)).setCell ⟨w.heap.size+1,2,none⟩ (.slice none 0 0)).setCell ⟨w.heap.size+1,3,none⟩ (.slice none 0 0)).setCell ⟨w.heap.size+1,4,none⟩ (.slice none 0 0)).setCell ⟨w.heap.size+1,5,none⟩ (.slice none 0 0)).setCell ⟨w.heap.size+1,6,none⟩ (.int .i64 0)).setCell ⟨w.heap.size+1,7,none⟩ (.int .i64 0)).setCell ⟨w.heap.size+1,8,none⟩ (.slice none 0 0)).setCell ⟨w.heap.size+1,9,none⟩ (.bool false)):=⟨_,rfl⟩
  have Ow1:Outside (w.heap.size+1) (w.heap.size+1+1) V w1:=by
   rw[hw1]
   repeat (refine Outside.setCell ?_ (by simp only;omega) (by simp only;omega) _)
   exact Outside.refl _ _ _
  have zw1:V.heap.size≤w1.heap.size∧w1.heap.size≤V.heap.size:=by rw[hw1];simp[World.setCell]
  have B_w1:=zaa (B_V.o.trans (Ow1.below (B:=w.heap.size) (by omega) B_V.o.size));have X0_w1:=zaa ((Ow1.block (w.heap.size) (zah X0_V.o) (by omega)).trans X0_V.o)
  have X1_w1:Hid (w1.heap[w.heap.size+1]?=some (.cells #[.slice none 0 0,.slice none 0 0,.slice none 0 0,.slice none 0 0,.slice none 0 0,.slice none 0 0,.int .i64 0,.int .i64 0,.slice none 0 0,.bool false] 51 (0,0))):=by rw[hw1];exact (zcl (zcd (zcg (zcj (zcc (zca (zbu (zbq (zbs (zbv X1_V.o _) _) _) _) _) _) _) _) _) _)
  clear Ow1;go_wp2;refine bodyPost_ret (v:=.tuple #[.agg #[.slice none 0 0,.slice none 0 0,.slice none 0 0,.slice none 0 0,.slice none 0 0,.slice none 0 0,.int .i64 0,.int .i64 0,.slice none 0 0,.bool false],.int .i64 2]) (by simp[results,Tryz.results17,go_sem,d0,d1,d2,d3,d4,d5,d6,d7,d8,d9]) rfl ?_;rw[← hw1,eR.o];exact ⟨_,rfl,(RowF.zero _ _).wide (Nat.le_refl _) (by omega),B_w1.o⟩
 have c1':¬ (4096:Int) < (zs.length:Int):=by omega
 by_cases c2:4096 < gs.length
 ·have c2':(4096:Int) < (gs.length:Int):=by omega
  have eR:Hid (zne ws ps es qs hs td cd vl nm fr zs st gs=(zz,2)):=if_pos (.inr c2);clear LF KZ KA CR CA HD c1 c2
  obtain ⟨V,hV⟩:∃ V,V=((w.alloc (.cells #[.slice aW ws.length cW,.slice aP ps.length cP,.slice aS es.length cS,.slice aQ qs.length cQ,.slice aH hs.length cH,.slice aT td.length cT,.int .i64 cd,.int .i64 vl,.slice aN nm.length cN,.bool fr] 51)).alloc (.cells #[.slice none 0 0,.slice none 0 0,.slice none 0 0,.slice none 0 0,.slice none 0 0,.slice none 0 0,.int .i64 0,.int .i64 0,.slice none 0 0,.bool false] 51)):=⟨_,rfl⟩
  have zV:w.heap.size+2≤V.heap.size:=by rw[hV];simp <;> omega
  have B_V:Hid (Below w.heap.size w V):=by rw[hV];exact (((Below.refl _ _).alloc (by simp <;> omega) _).alloc (by simp <;> omega) _)
  have X0_V:Hid (V.heap[w.heap.size]?=some (.cells #[.slice aW ws.length cW,.slice aP ps.length cP,.slice aS es.length cS,.slice aQ qs.length cQ,.slice aH hs.length cH,.slice aT td.length cT,.int .i64 cd,.int .i64 vl,.slice aN nm.length cN,.bool fr] 51 (0,0))):=by rw[hV];exact (zal (zag rfl))
  have X1_V:Hid (V.heap[w.heap.size+1]?=some (.cells #[.slice none 0 0,.slice none 0 0,.slice none 0 0,.slice none 0 0,.slice none 0 0,.slice none 0 0,.int .i64 0,.int .i64 0,.slice none 0 0,.bool false] 51 (0,0))):=by rw[hV];exact (zag (by simp))
  go_enter Tryz.func17,Tryz.ntmps17;go_upto_region 1 with fail;rw[← hV];clear hV;obtain ⟨d0,d1,d2,d3,d4,d5,d6,d7,d8,d9,g0,g1,g2,g3,g4,g5,g6,g7,g8,g9⟩:=zam X1_V.o
  obtain ⟨w1,hw1⟩:∃ w1,w1=((((((((((V.setCell ⟨w.heap.size+1,0,none⟩ (.slice none 0 0)).setCell ⟨w.heap.size+1,1,none⟩ (.slice none 0 0)).setCell ⟨w.heap.size+1,2,none⟩ (.slice none 0 0)).setCell ⟨w.heap.size+1,3,none⟩ (.slice none 0 0)).setCell ⟨w.heap.size+1,4,none⟩ (.slice none 0 0)).setCell ⟨w.heap.size+1,5,none⟩ (.slice none 0 0)).setCell ⟨w.heap.size+1,6,none⟩ (.int .i64 0)).setCell ⟨w.heap.size+1,7,none⟩ (.int .i64 0)).setCell ⟨w.heap.size+1,8,none⟩ (.slice none 0 0)).setCell ⟨w.heap.size+1,9,none⟩ (.bool false)):=⟨_,rfl⟩
  have Ow1:Outside (w.heap.size+1) (w.heap.size+1+1) V w1:=by
   rw[hw1]
   repeat (refine Outside.setCell ?_ (by simp only;omega) (by simp only;omega) _)
   exact Outside.refl _ _ _
  have zw1:V.heap.size≤w1.heap.size∧w1.heap.size≤V.heap.size:=by rw[hw1];simp[World.setCell]
  have B_w1:=zaa (B_V.o.trans (Ow1.below (B:=w.heap.size) (by omega) B_V.o.size));have X0_w1:=zaa ((Ow1.block (w.heap.size) (zah X0_V.o) (by omega)).trans X0_V.o)
  have X1_w1:Hid (w1.heap[w.heap.size+1]?=some (.cells #[.slice none 0 0,.slice none 0 0,.slice none 0 0,.slice none 0 0,.slice none 0 0,.slice none 0 0,.int .i64 0,.int .i64 0,.slice none 0 0,.bool false] 51 (0,0))):=by rw[hw1];exact (zcl (zcd (zcg (zcj (zcc (zca (zbu (zbq (zbs (zbv X1_V.o _) _) _) _) _) _) _) _) _) _)
  clear Ow1;go_wp2;refine bodyPost_ret (v:=.tuple #[.agg #[.slice none 0 0,.slice none 0 0,.slice none 0 0,.slice none 0 0,.slice none 0 0,.slice none 0 0,.int .i64 0,.int .i64 0,.slice none 0 0,.bool false],.int .i64 2]) (by simp[results,Tryz.results17,go_sem,d0,d1,d2,d3,d4,d5,d6,d7,d8,d9]) rfl ?_;rw[← hw1,eR.o];exact ⟨_,rfl,(RowF.zero _ _).wide (Nat.le_refl _) (by omega),B_w1.o⟩
 have c2':¬ (4096:Int) < (gs.length:Int):=by omega
 have cc:¬ (4096 < zs.length∨4096 < gs.length):=by omega
 by_cases y:fsB ws ps es qs hs td cd vl nm fr=true
 case neg =>
  have y':fsB ws ps es qs hs td cd vl nm fr=false:=by simpa using y
  simp only[y'] at LF
  have eR:Hid (zne ws ps es qs hs td cd vl nm fr zs st gs=(zz,1)):=by unfold Hid zne;rw[if_neg cc,if_neg y]
  clear KZ KA CR CA HD c1 c2 cc y y'
  obtain ⟨V,hV⟩:∃ V,V=((w.alloc (.cells #[.slice aW ws.length cW,.slice aP ps.length cP,.slice aS es.length cS,.slice aQ qs.length cQ,.slice aH hs.length cH,.slice aT td.length cT,.int .i64 cd,.int .i64 vl,.slice aN nm.length cN,.bool fr] 51)).alloc (.cells #[.slice none 0 0,.slice none 0 0,.slice none 0 0,.slice none 0 0,.slice none 0 0,.slice none 0 0,.int .i64 0,.int .i64 0,.slice none 0 0,.bool false] 51)):=⟨_,rfl⟩
  have zV:w.heap.size+2≤V.heap.size:=by rw[hV];simp <;> omega
  have B_V:Hid (Below w.heap.size w V):=by rw[hV];exact (((Below.refl _ _).alloc (by simp <;> omega) _).alloc (by simp <;> omega) _)
  have X0_V:Hid (V.heap[w.heap.size]?=some (.cells #[.slice aW ws.length cW,.slice aP ps.length cP,.slice aS es.length cS,.slice aQ qs.length cQ,.slice aH hs.length cH,.slice aT td.length cT,.int .i64 cd,.int .i64 vl,.slice aN nm.length cN,.bool fr] 51 (0,0))):=by rw[hV];exact (zal (zag rfl))
  have X1_V:Hid (V.heap[w.heap.size+1]?=some (.cells #[.slice none 0 0,.slice none 0 0,.slice none 0 0,.slice none 0 0,.slice none 0 0,.slice none 0 0,.int .i64 0,.int .i64 0,.slice none 0 0,.bool false] 51 (0,0))):=by rw[hV];exact (zag (by simp))
  go_enter Tryz.func17,Tryz.ntmps17;go_upto_region 1 with fail;rw[← hV];clear hV;obtain ⟨c0_0,c0_1,c0_2,c0_3,c0_4,c0_5,c0_6,c0_7,c0_8,c0_9,-⟩:=zam X0_V.o;go_wp2_with fail;refine (LF.o V B_V.o).mono ?_;rintro e w1 ⟨rfl,hb⟩;clear c0_0 c0_1 c0_2 c0_3 c0_4 c0_5 c0_6 c0_7 c0_8 c0_9;have zw1:V.heap.size≤w1.heap.size:=hb.size;have B_w1:=zaa (zab B_V.o hb B_V.o.size);have X0_w1:=zaa (zac X0_V.o hb (zah X0_V.o));have X1_w1:=zaa (zac X1_V.o hb (zah X1_V.o));clear B_V hb X0_V X1_V;clear LF;obtain ⟨d0,d1,d2,d3,d4,d5,d6,d7,d8,d9,g0,g1,g2,g3,g4,g5,g6,g7,g8,g9⟩:=zam X1_w1.o
  obtain ⟨w2,hw2⟩:∃ w2,w2=((((((((((w1.setCell ⟨w.heap.size+1,0,none⟩ (.slice none 0 0)).setCell ⟨w.heap.size+1,1,none⟩ (.slice none 0 0)).setCell ⟨w.heap.size+1,2,none⟩ (.slice none 0 0)).setCell ⟨w.heap.size+1,3,none⟩ (.slice none 0 0)).setCell ⟨w.heap.size+1,4,none⟩ (.slice none 0 0)).setCell ⟨w.heap.size+1,5,none⟩ (.slice none 0 0)).setCell ⟨w.heap.size+1,6,none⟩ (.int .i64 0)).setCell ⟨w.heap.size+1,7,none⟩ (.int .i64 0)).setCell ⟨w.heap.size+1,8,none⟩ (.slice none 0 0)).setCell ⟨w.heap.size+1,9,none⟩ (.bool false)):=⟨_,rfl⟩
  have Ow2:Outside (w.heap.size+1) (w.heap.size+1+1) w1 w2:=by
   rw[hw2]
   repeat (refine Outside.setCell ?_ (by simp only;omega) (by simp only;omega) _)
   exact Outside.refl _ _ _
  have zw2:w1.heap.size≤w2.heap.size∧w2.heap.size≤w1.heap.size:=by rw[hw2];simp[World.setCell]
  have B_w2:=zaa (B_w1.o.trans (Ow2.below (B:=w.heap.size) (by omega) B_w1.o.size));have X0_w2:=zaa ((Ow2.block (w.heap.size) (zah X0_w1.o) (by omega)).trans X0_w1.o)
  have X1_w2:Hid (w2.heap[w.heap.size+1]?=some (.cells #[.slice none 0 0,.slice none 0 0,.slice none 0 0,.slice none 0 0,.slice none 0 0,.slice none 0 0,.int .i64 0,.int .i64 0,.slice none 0 0,.bool false] 51 (0,0))):=by rw[hw2];exact (zcl (zcd (zcg (zcj (zcc (zca (zbu (zbq (zbs (zbv X1_w1.o _) _) _) _) _) _) _) _) _) _)
  clear Ow2;go_wp2;refine bodyPost_ret (v:=.tuple #[.agg #[.slice none 0 0,.slice none 0 0,.slice none 0 0,.slice none 0 0,.slice none 0 0,.slice none 0 0,.int .i64 0,.int .i64 0,.slice none 0 0,.bool false],.int .i64 1]) (by simp[results,Tryz.results17,go_sem,d0,d1,d2,d3,d4,d5,d6,d7,d8,d9]) rfl ?_;rw[← hw2,eR.o];exact ⟨_,rfl,(RowF.zero _ _).wide (Nat.le_refl _) (by omega),B_w2.o⟩
 simp only[y] at LF;have Y:=zaa (yadu y)
 by_cases k1:zaw zs=true
 case neg =>
  have k':zaw zs=false:=by simpa using k1
  rw[k'] at KZ
  have eR:Hid (zne ws ps es qs hs td cd vl nm fr zs st gs=(zz,4)):=by unfold Hid zne;rw[if_neg cc,if_pos y,if_neg (fun q=>k1 q.1)]
  clear KA CR CA HD c1 c2 cc y Y k1 k'
  obtain ⟨V,hV⟩:∃ V,V=((w.alloc (.cells #[.slice aW ws.length cW,.slice aP ps.length cP,.slice aS es.length cS,.slice aQ qs.length cQ,.slice aH hs.length cH,.slice aT td.length cT,.int .i64 cd,.int .i64 vl,.slice aN nm.length cN,.bool fr] 51)).alloc (.cells #[.slice none 0 0,.slice none 0 0,.slice none 0 0,.slice none 0 0,.slice none 0 0,.slice none 0 0,.int .i64 0,.int .i64 0,.slice none 0 0,.bool false] 51)):=⟨_,rfl⟩
  have zV:w.heap.size+2≤V.heap.size:=by rw[hV];simp <;> omega
  have B_V:Hid (Below w.heap.size w V):=by rw[hV];exact (((Below.refl _ _).alloc (by simp <;> omega) _).alloc (by simp <;> omega) _)
  have X0_V:Hid (V.heap[w.heap.size]?=some (.cells #[.slice aW ws.length cW,.slice aP ps.length cP,.slice aS es.length cS,.slice aQ qs.length cQ,.slice aH hs.length cH,.slice aT td.length cT,.int .i64 cd,.int .i64 vl,.slice aN nm.length cN,.bool fr] 51 (0,0))):=by rw[hV];exact (zal (zag rfl))
  have X1_V:Hid (V.heap[w.heap.size+1]?=some (.cells #[.slice none 0 0,.slice none 0 0,.slice none 0 0,.slice none 0 0,.slice none 0 0,.slice none 0 0,.int .i64 0,.int .i64 0,.slice none 0 0,.bool false] 51 (0,0))):=by rw[hV];exact (zag (by simp))
  go_enter Tryz.func17,Tryz.ntmps17;go_upto_region 1 with fail;rw[← hV];clear hV;obtain ⟨c0_0,c0_1,c0_2,c0_3,c0_4,c0_5,c0_6,c0_7,c0_8,c0_9,-⟩:=zam X0_V.o;go_wp2_with fail;refine (LF.o V B_V.o).mono ?_;rintro e w1 ⟨rfl,hb⟩;clear c0_0 c0_1 c0_2 c0_3 c0_4 c0_5 c0_6 c0_7 c0_8 c0_9;have zw1:V.heap.size≤w1.heap.size:=hb.size;have B_w1:=zaa (zab B_V.o hb B_V.o.size);have X0_w1:=zaa (zac X0_V.o hb (zah X0_V.o));have X1_w1:=zaa (zac X1_V.o hb (zah X1_V.o));clear B_V hb X0_V X1_V;clear LF;go_wp2_with fail;refine (KZ.o w1 B_w1.o).mono ?_;rintro e w' ⟨rfl,hw'⟩;subst w';clear KZ;obtain ⟨d0,d1,d2,d3,d4,d5,d6,d7,d8,d9,g0,g1,g2,g3,g4,g5,g6,g7,g8,g9⟩:=zam X1_w1.o
  obtain ⟨w2,hw2⟩:∃ w2,w2=((((((((((w1.setCell ⟨w.heap.size+1,0,none⟩ (.slice none 0 0)).setCell ⟨w.heap.size+1,1,none⟩ (.slice none 0 0)).setCell ⟨w.heap.size+1,2,none⟩ (.slice none 0 0)).setCell ⟨w.heap.size+1,3,none⟩ (.slice none 0 0)).setCell ⟨w.heap.size+1,4,none⟩ (.slice none 0 0)).setCell ⟨w.heap.size+1,5,none⟩ (.slice none 0 0)).setCell ⟨w.heap.size+1,6,none⟩ (.int .i64 0)).setCell ⟨w.heap.size+1,7,none⟩ (.int .i64 0)).setCell ⟨w.heap.size+1,8,none⟩ (.slice none 0 0)).setCell ⟨w.heap.size+1,9,none⟩ (.bool false)):=⟨_,rfl⟩
  have Ow2:Outside (w.heap.size+1) (w.heap.size+1+1) w1 w2:=by
   rw[hw2]
   repeat (refine Outside.setCell ?_ (by simp only;omega) (by simp only;omega) _)
   exact Outside.refl _ _ _
  have zw2:w1.heap.size≤w2.heap.size∧w2.heap.size≤w1.heap.size:=by rw[hw2];simp[World.setCell]
  have B_w2:=zaa (B_w1.o.trans (Ow2.below (B:=w.heap.size) (by omega) B_w1.o.size));have X0_w2:=zaa ((Ow2.block (w.heap.size) (zah X0_w1.o) (by omega)).trans X0_w1.o)
  have X1_w2:Hid (w2.heap[w.heap.size+1]?=some (.cells #[.slice none 0 0,.slice none 0 0,.slice none 0 0,.slice none 0 0,.slice none 0 0,.slice none 0 0,.int .i64 0,.int .i64 0,.slice none 0 0,.bool false] 51 (0,0))):=by rw[hw2];exact (zcl (zcd (zcg (zcj (zcc (zca (zbu (zbq (zbs (zbv X1_w1.o _) _) _) _) _) _) _) _) _) _)
  clear Ow2;go_wp2;refine bodyPost_ret (v:=.tuple #[.agg #[.slice none 0 0,.slice none 0 0,.slice none 0 0,.slice none 0 0,.slice none 0 0,.slice none 0 0,.int .i64 0,.int .i64 0,.slice none 0 0,.bool false],.int .i64 4]) (by simp[results,Tryz.results17,go_sem,d0,d1,d2,d3,d4,d5,d6,d7,d8,d9]) rfl ?_;rw[← hw2,eR.o];exact ⟨_,rfl,(RowF.zero _ _).wide (Nat.le_refl _) (by omega),B_w2.o⟩
 rw[k1] at KZ
 by_cases k2:zaw gs=true
 case neg =>
  have k':zaw gs=false:=by simpa using k2
  rw[k'] at KA
  have eR:Hid (zne ws ps es qs hs td cd vl nm fr zs st gs=(zz,4)):=by unfold Hid zne;rw[if_neg cc,if_pos y,if_neg (fun q=>k2 q.2.1)]
  clear CR CA HD c1 c2 cc y Y k1 k2 k'
  obtain ⟨V,hV⟩:∃ V,V=((w.alloc (.cells #[.slice aW ws.length cW,.slice aP ps.length cP,.slice aS es.length cS,.slice aQ qs.length cQ,.slice aH hs.length cH,.slice aT td.length cT,.int .i64 cd,.int .i64 vl,.slice aN nm.length cN,.bool fr] 51)).alloc (.cells #[.slice none 0 0,.slice none 0 0,.slice none 0 0,.slice none 0 0,.slice none 0 0,.slice none 0 0,.int .i64 0,.int .i64 0,.slice none 0 0,.bool false] 51)):=⟨_,rfl⟩
  have zV:w.heap.size+2≤V.heap.size:=by rw[hV];simp <;> omega
  have B_V:Hid (Below w.heap.size w V):=by rw[hV];exact (((Below.refl _ _).alloc (by simp <;> omega) _).alloc (by simp <;> omega) _)
  have X0_V:Hid (V.heap[w.heap.size]?=some (.cells #[.slice aW ws.length cW,.slice aP ps.length cP,.slice aS es.length cS,.slice aQ qs.length cQ,.slice aH hs.length cH,.slice aT td.length cT,.int .i64 cd,.int .i64 vl,.slice aN nm.length cN,.bool fr] 51 (0,0))):=by rw[hV];exact (zal (zag rfl))
  have X1_V:Hid (V.heap[w.heap.size+1]?=some (.cells #[.slice none 0 0,.slice none 0 0,.slice none 0 0,.slice none 0 0,.slice none 0 0,.slice none 0 0,.int .i64 0,.int .i64 0,.slice none 0 0,.bool false] 51 (0,0))):=by rw[hV];exact (zag (by simp))
  go_enter Tryz.func17,Tryz.ntmps17;go_upto_region 1 with fail;rw[← hV];clear hV;obtain ⟨c0_0,c0_1,c0_2,c0_3,c0_4,c0_5,c0_6,c0_7,c0_8,c0_9,-⟩:=zam X0_V.o;go_wp2_with fail;refine (LF.o V B_V.o).mono ?_;rintro e w1 ⟨rfl,hb⟩;clear c0_0 c0_1 c0_2 c0_3 c0_4 c0_5 c0_6 c0_7 c0_8 c0_9;have zw1:V.heap.size≤w1.heap.size:=hb.size;have B_w1:=zaa (zab B_V.o hb B_V.o.size);have X0_w1:=zaa (zac X0_V.o hb (zah X0_V.o));have X1_w1:=zaa (zac X1_V.o hb (zah X1_V.o));clear B_V hb X0_V X1_V;clear LF;go_wp2_with fail;refine (KZ.o w1 B_w1.o).mono ?_;rintro e w' ⟨rfl,hw'⟩;subst w';clear KZ;go_wp2_with fail;refine (KA.o w1 B_w1.o).mono ?_;rintro e w' ⟨rfl,hw'⟩;subst w';clear KA;obtain ⟨d0,d1,d2,d3,d4,d5,d6,d7,d8,d9,g0,g1,g2,g3,g4,g5,g6,g7,g8,g9⟩:=zam X1_w1.o
  obtain ⟨w2,hw2⟩:∃ w2,w2=((((((((((w1.setCell ⟨w.heap.size+1,0,none⟩ (.slice none 0 0)).setCell ⟨w.heap.size+1,1,none⟩ (.slice none 0 0)).setCell ⟨w.heap.size+1,2,none⟩ (.slice none 0 0)).setCell ⟨w.heap.size+1,3,none⟩ (.slice none 0 0)).setCell ⟨w.heap.size+1,4,none⟩ (.slice none 0 0)).setCell ⟨w.heap.size+1,5,none⟩ (.slice none 0 0)).setCell ⟨w.heap.size+1,6,none⟩ (.int .i64 0)).setCell ⟨w.heap.size+1,7,none⟩ (.int .i64 0)).setCell ⟨w.heap.size+1,8,none⟩ (.slice none 0 0)).setCell ⟨w.heap.size+1,9,none⟩ (.bool false)):=⟨_,rfl⟩
  have Ow2:Outside (w.heap.size+1) (w.heap.size+1+1) w1 w2:=by
   rw[hw2]
   repeat (refine Outside.setCell ?_ (by simp only;omega) (by simp only;omega) _)
   exact Outside.refl _ _ _
  have zw2:w1.heap.size≤w2.heap.size∧w2.heap.size≤w1.heap.size:=by rw[hw2];simp[World.setCell]
  have B_w2:=zaa (B_w1.o.trans (Ow2.below (B:=w.heap.size) (by omega) B_w1.o.size));have X0_w2:=zaa ((Ow2.block (w.heap.size) (zah X0_w1.o) (by omega)).trans X0_w1.o)
  have X1_w2:Hid (w2.heap[w.heap.size+1]?=some (.cells #[.slice none 0 0,.slice none 0 0,.slice none 0 0,.slice none 0 0,.slice none 0 0,.slice none 0 0,.int .i64 0,.int .i64 0,.slice none 0 0,.bool false] 51 (0,0))):=by rw[hw2];exact (zcl (zcd (zcg (zcj (zcc (zca (zbu (zbq (zbs (zbv X1_w1.o _) _) _) _) _) _) _) _) _) _)
  clear Ow2;go_wp2;refine bodyPost_ret (v:=.tuple #[.agg #[.slice none 0 0,.slice none 0 0,.slice none 0 0,.slice none 0 0,.slice none 0 0,.slice none 0 0,.int .i64 0,.int .i64 0,.slice none 0 0,.bool false],.int .i64 4]) (by simp[results,Tryz.results17,go_sem,d0,d1,d2,d3,d4,d5,d6,d7,d8,d9]) rfl ?_;rw[← hw2,eR.o];exact ⟨_,rfl,(RowF.zero _ _).wide (Nat.le_refl _) (by omega),B_w2.o⟩
 rw[k2] at KA
 by_cases s1:0≤st∧st≤200
 case neg =>
  have IN:Hid (∀ w1:World,Calls Tryz.prog 43 #[.int .i64 st,.int .i64 0,.int .i64 200] w1 fun e w'=>e=.returned (.bool false)∧w'=w1):=fun w1=>zeb st 0 200 w1 s1
  have eR:Hid (zne ws ps es qs hs td cd vl nm fr zs st gs=(zz,4)):=by unfold Hid zne;rw[if_neg cc,if_pos y,if_neg (fun q=>s1 q.2.2)]
  clear CR CA HD c1 c2 cc y Y k1 k2 s1
  obtain ⟨V,hV⟩:∃ V,V=((w.alloc (.cells #[.slice aW ws.length cW,.slice aP ps.length cP,.slice aS es.length cS,.slice aQ qs.length cQ,.slice aH hs.length cH,.slice aT td.length cT,.int .i64 cd,.int .i64 vl,.slice aN nm.length cN,.bool fr] 51)).alloc (.cells #[.slice none 0 0,.slice none 0 0,.slice none 0 0,.slice none 0 0,.slice none 0 0,.slice none 0 0,.int .i64 0,.int .i64 0,.slice none 0 0,.bool false] 51)):=⟨_,rfl⟩
  have zV:w.heap.size+2≤V.heap.size:=by rw[hV];simp <;> omega
  have B_V:Hid (Below w.heap.size w V):=by rw[hV];exact (((Below.refl _ _).alloc (by simp <;> omega) _).alloc (by simp <;> omega) _)
  have X0_V:Hid (V.heap[w.heap.size]?=some (.cells #[.slice aW ws.length cW,.slice aP ps.length cP,.slice aS es.length cS,.slice aQ qs.length cQ,.slice aH hs.length cH,.slice aT td.length cT,.int .i64 cd,.int .i64 vl,.slice aN nm.length cN,.bool fr] 51 (0,0))):=by rw[hV];exact (zal (zag rfl))
  have X1_V:Hid (V.heap[w.heap.size+1]?=some (.cells #[.slice none 0 0,.slice none 0 0,.slice none 0 0,.slice none 0 0,.slice none 0 0,.slice none 0 0,.int .i64 0,.int .i64 0,.slice none 0 0,.bool false] 51 (0,0))):=by rw[hV];exact (zag (by simp))
  go_enter Tryz.func17,Tryz.ntmps17;go_upto_region 1 with fail;rw[← hV];clear hV;obtain ⟨c0_0,c0_1,c0_2,c0_3,c0_4,c0_5,c0_6,c0_7,c0_8,c0_9,-⟩:=zam X0_V.o;go_wp2_with fail;refine (LF.o V B_V.o).mono ?_;rintro e w1 ⟨rfl,hb⟩;clear c0_0 c0_1 c0_2 c0_3 c0_4 c0_5 c0_6 c0_7 c0_8 c0_9;have zw1:V.heap.size≤w1.heap.size:=hb.size;have B_w1:=zaa (zab B_V.o hb B_V.o.size);have X0_w1:=zaa (zac X0_V.o hb (zah X0_V.o));have X1_w1:=zaa (zac X1_V.o hb (zah X1_V.o));clear B_V hb X0_V X1_V;clear LF;go_wp2_with fail;refine (KZ.o w1 B_w1.o).mono ?_;rintro e w' ⟨rfl,hw'⟩;subst w';clear KZ;go_wp2_with fail;refine (KA.o w1 B_w1.o).mono ?_;rintro e w' ⟨rfl,hw'⟩;subst w';clear KA;go_wp2_with fail;refine (IN.o w1).mono ?_;rintro e w' ⟨rfl,hw'⟩;subst w';clear IN;obtain ⟨d0,d1,d2,d3,d4,d5,d6,d7,d8,d9,g0,g1,g2,g3,g4,g5,g6,g7,g8,g9⟩:=zam X1_w1.o
  obtain ⟨w2,hw2⟩:∃ w2,w2=((((((((((w1.setCell ⟨w.heap.size+1,0,none⟩ (.slice none 0 0)).setCell ⟨w.heap.size+1,1,none⟩ (.slice none 0 0)).setCell ⟨w.heap.size+1,2,none⟩ (.slice none 0 0)).setCell ⟨w.heap.size+1,3,none⟩ (.slice none 0 0)).setCell ⟨w.heap.size+1,4,none⟩ (.slice none 0 0)).setCell ⟨w.heap.size+1,5,none⟩ (.slice none 0 0)).setCell ⟨w.heap.size+1,6,none⟩ (.int .i64 0)).setCell ⟨w.heap.size+1,7,none⟩ (.int .i64 0)).setCell ⟨w.heap.size+1,8,none⟩ (.slice none 0 0)).setCell ⟨w.heap.size+1,9,none⟩ (.bool false)):=⟨_,rfl⟩
  have Ow2:Outside (w.heap.size+1) (w.heap.size+1+1) w1 w2:=by
   rw[hw2]
   repeat (refine Outside.setCell ?_ (by simp only;omega) (by simp only;omega) _)
   exact Outside.refl _ _ _
  have zw2:w1.heap.size≤w2.heap.size∧w2.heap.size≤w1.heap.size:=by rw[hw2];simp[World.setCell]
  have B_w2:=zaa (B_w1.o.trans (Ow2.below (B:=w.heap.size) (by omega) B_w1.o.size));have X0_w2:=zaa ((Ow2.block (w.heap.size) (zah X0_w1.o) (by omega)).trans X0_w1.o)
  have X1_w2:Hid (w2.heap[w.heap.size+1]?=some (.cells #[.slice none 0 0,.slice none 0 0,.slice none 0 0,.slice none 0 0,.slice none 0 0,.slice none 0 0,.int .i64 0,.int .i64 0,.slice none 0 0,.bool false] 51 (0,0))):=by rw[hw2];exact (zcl (zcd (zcg (zcj (zcc (zca (zbu (zbq (zbs (zbv X1_w1.o _) _) _) _) _) _) _) _) _) _)
  clear Ow2;go_wp2;refine bodyPost_ret (v:=.tuple #[.agg #[.slice none 0 0,.slice none 0 0,.slice none 0 0,.slice none 0 0,.slice none 0 0,.slice none 0 0,.int .i64 0,.int .i64 0,.slice none 0 0,.bool false],.int .i64 4]) (by simp[results,Tryz.results17,go_sem,d0,d1,d2,d3,d4,d5,d6,d7,d8,d9]) rfl ?_;rw[← hw2,eR.o];exact ⟨_,rfl,(RowF.zero _ _).wide (Nat.le_refl _) (by omega),B_w2.o⟩
 have IN:Hid (∀ w1:World,Calls Tryz.prog 43 #[.int .i64 st,.int .i64 0,.int .i64 200] w1 fun e w'=>e=.returned (.bool true)∧w'=w1):=fun w1=>zaz st 0 200 w1 s1
 have eS:Hid (zne ws ps es qs hs td cd vl nm fr zs st gs=ctD ws ps es qs zs st.toNat gs):=by unfold Hid zne;rw[if_neg cc,if_pos y,if_pos ⟨k1,k2,s1⟩]
 obtain ⟨n,en⟩:∃ n:Nat,st=(n:Int):=⟨st.toNat,by omega⟩
 subst en;rw[Int.toNat_natCast] at eS;have pW:=yaoh Y.o.pm zs;have pE:=yadt Y.o.bl zs;have lW:=zbz pW;have lE:=zbt pE;have CS:=zaa (fun w1 hb=>CR.o w1 hb _ ws ps es qs (HD.o w1 hb) hws hps hes hqs Y.o.pm Y.o.bl k1);unfold ctD at eS;clear CR HD Y c1 c2 cc y k1;generalize cwW ws ps zs=W1 at *;generalize cwE es qs zs=E1 at *;have len:=zky W1 [];have run:=yavk W1 E1 n;have ok:=zyz ((rpL W1 []).take n) W1 [] E1 [] pW pE (fun m hm=>ztp W1 [] m (List.mem_of_mem_take hm));rw[run] at ok;simp only at ok
 obtain ⟨P1,hP1⟩:∃ P1:List St,P1=[]:=⟨_,rfl⟩
 obtain ⟨Q1,hQ1⟩:∃ Q1:List Se,Q1=[]:=⟨_,rfl⟩
 have RP:Hid (∀ vv w1,RdPm w1 vv W1 P1→Calls Tryz.prog 44 #[vv] w1 fun e w'=>∃ v',e=.returned (.tuple #[v',.int .i64 (rpC W1 [])])∧Row w' 98 3 w1.heap.size w'.heap.size v' (rpL W1 []).length (mis (rpL W1 []))∧Below w1.heap.size w1 w'):=fun vv w1 hr=>by
  rw[hP1] at hr;exact zgc vv W1 [] w1 hr (by omega) (by simp)
 have LA:Hid (∀ w1 xW xP xS xQ vL,RdDev w1 (.agg #[xW,xP,xS,xQ]) W1 P1 E1 Q1→RdM w1 vL ((rpL W1 []).take n)→Calls Tryz.prog 45 #[.agg #[xW,xP,xS,xQ],vL] w1 fun e w'=>∃ yW yP yS yQ,e=.returned (.agg #[yW,yP,yS,yQ])∧RdDev w' (.agg #[yW,yP,yS,yQ]) (ctM W1 E1 n).W (ctM W1 E1 n).P (ctM W1 E1 n).E (ctM W1 E1 n).Q∧Below w1.heap.size w1 w'):=fun w1 xW xP xS xQ vL hd hl=>by
  rw[hP1,hQ1] at hd;refine (ztb _ vL _ _ _ _ ((rpL W1 []).take n) W1 [] E1 [] _ _ _ _ w1 hd rfl hl pW pE (fun m hm=>ztp W1 [] m (List.mem_of_mem_take hm)) (by rw[List.length_take];omega) run).mono ?_;rintro e w2 ⟨a,b,c,d,h1,h2,-,h3⟩;exact ⟨a,b,c,d,h1,h2,h3⟩
 have C2:Hid (∀ w1,Below w.heap.size w w1→∀ vd,RdDev w1 vd (ctM W1 E1 n).W (ctM W1 E1 n).P (ctM W1 E1 n).E (ctM W1 E1 n).Q→Calls Tryz.prog 27 #[vd,.slice aA gs.length cA] w1 fun e w'=>∃ v',e=.returned v'∧RowDev w' w1.heap.size w'.heap.size v' (cwW (ctM W1 E1 n).W (ctM W1 E1 n).P gs) [] (cwE (ctM W1 E1 n).E (ctM W1 E1 n).Q gs) []∧Below w1.heap.size w1 w'):=fun w1 hb vd hd=>by
  have q1:=zbz ok.1;have q2:=zbt ok.2;exact CA.o w1 hb vd _ _ _ _ hd (by omega) (by omega) (by omega) (by omega) ok.1 ok.2 k2
 have p4:=yaoh ok.1 gs;have e4:=yadt ok.2 gs;clear CA run ok k2 pW pE lW lE;generalize (ctM W1 E1 n).W=W3 at *;generalize (ctM W1 E1 n).P=P3 at *;generalize (ctM W1 E1 n).E=E3 at *;generalize (ctM W1 E1 n).Q=Q3 at *;generalize cwW W3 P3 gs=W4 at *;generalize cwE E3 Q3 gs=E4 at *;rw[← hP1,← hQ1] at CS
 have RC:Hid (∀ w1 vd,RdDev w1 vd W4 P1 E4 Q1→Calls Tryz.prog 46 #[vd] w1 fun e w'=>zis w1 w' e (recR W4 [] E4 [])):=fun w1 vd hd=>by
  rw[hP1,hQ1] at hd;have q1:=zbz p4;have q2:=zbt e4;exact zpu vd W4 [] E4 [] w1 hd (by omega) (by simp) (by omega) (by simp)
 rw[← hP1,← hQ1] at C2;clear hP1 hQ1 p4 e4;generalize rpC W1 []=rc at *;generalize rpL W1 []=l at *;generalize recR W4 [] E4 []=RR at *;clear hws hps hes hqs hhs htd hnm
 obtain ⟨V,hV⟩:∃ V,V=((w.alloc (.cells #[.slice aW ws.length cW,.slice aP ps.length cP,.slice aS es.length cS,.slice aQ qs.length cQ,.slice aH hs.length cH,.slice aT td.length cT,.int .i64 cd,.int .i64 vl,.slice aN nm.length cN,.bool fr] 51)).alloc (.cells #[.slice none 0 0,.slice none 0 0,.slice none 0 0,.slice none 0 0,.slice none 0 0,.slice none 0 0,.int .i64 0,.int .i64 0,.slice none 0 0,.bool false] 51)):=⟨_,rfl⟩
 have zV:w.heap.size+2≤V.heap.size:=by rw[hV];simp <;> omega
 have B_V:Hid (Below w.heap.size w V):=by rw[hV];exact (((Below.refl _ _).alloc (by simp <;> omega) _).alloc (by simp <;> omega) _)
 have X0_V:Hid (V.heap[w.heap.size]?=some (.cells #[.slice aW ws.length cW,.slice aP ps.length cP,.slice aS es.length cS,.slice aQ qs.length cQ,.slice aH hs.length cH,.slice aT td.length cT,.int .i64 cd,.int .i64 vl,.slice aN nm.length cN,.bool fr] 51 (0,0))):=by rw[hV];exact (zal (zag rfl))
 have X1_V:Hid (V.heap[w.heap.size+1]?=some (.cells #[.slice none 0 0,.slice none 0 0,.slice none 0 0,.slice none 0 0,.slice none 0 0,.slice none 0 0,.int .i64 0,.int .i64 0,.slice none 0 0,.bool false] 51 (0,0))):=by rw[hV];exact (zag (by simp))
 go_enter Tryz.func17,Tryz.ntmps17;go_upto_region 1 with fail;rw[← hV];clear hV;obtain ⟨c0_0,c0_1,c0_2,c0_3,c0_4,c0_5,c0_6,c0_7,c0_8,c0_9,-⟩:=zam X0_V.o;go_wp2_with fail;refine (LF.o V B_V.o).mono ?_;rintro e w1 ⟨rfl,hb⟩;clear c0_0 c0_1 c0_2 c0_3 c0_4 c0_5 c0_6 c0_7 c0_8 c0_9;have zw1:V.heap.size≤w1.heap.size:=hb.size;have B_w1:=zaa (zab B_V.o hb B_V.o.size);have X0_w1:=zaa (zac X0_V.o hb (zah X0_V.o));have X1_w1:=zaa (zac X1_V.o hb (zah X1_V.o));clear B_V hb X0_V X1_V;clear LF;go_wp2_with fail;refine (KZ.o w1 B_w1.o).mono ?_;rintro e w' ⟨rfl,hw'⟩;subst w';clear KZ;go_wp2_with fail;refine (KA.o w1 B_w1.o).mono ?_;rintro e w' ⟨rfl,hw'⟩;subst w';clear KA;go_wp2_with fail;refine (IN.o w1).mono ?_;rintro e w' ⟨rfl,hw'⟩;subst w';clear IN;obtain ⟨c0_0,c0_1,c0_2,c0_3,-,-,-,-,-,-,-⟩:=zam X0_w1.o;go_wp2_with fail;refine (CS.o w1 B_w1.o).mono ?_;rintro e w2 ⟨v',rfl,hr,hb⟩;obtain ⟨iW,jW,iP,jP,iS,jS,iQ,jQ,ei,-,-⟩:=hr.rd.form;subst ei;clear c0_0 c0_1 c0_2 c0_3;have zw2:w1.heap.size≤w2.heap.size:=hb.size;have B_w2:=zaa (zab B_w1.o hb B_w1.o.size);have X0_w2:=zaa (zac X0_w1.o hb (zah X0_w1.o));have X1_w2:=zaa (zac X1_w1.o hb (zah X1_w1.o));clear B_w1 hb X0_w1 X1_w1;have RD_w2:=zaa hr.rd;clear hr CS
 obtain ⟨w3,hw3⟩:∃ w3,w3=(w2.alloc (.cells #[.slice iW W1.length jW,.slice iP P1.length jP,.slice iS E1.length jS,.slice iQ Q1.length jQ] 45)):=⟨_,rfl⟩
 have hb:Below w2.heap.size w2 w3:=by rw[hw3];exact ((Below.refl _ _).alloc (by simp <;> omega) _)
 obtain ⟨bD,hbD⟩:∃ bD:Nat,bD=w2.heap.size:=⟨_,rfl⟩
 have X2_w3:Hid (w3.heap[bD]?=some (.cells #[.slice iW W1.length jW,.slice iP P1.length jP,.slice iS E1.length jS,.slice iQ Q1.length jQ] 45 (0,0))):=by rw[hw3,hbD];exact (zag rfl)
 have pbD:w2.heap.size+0≤bD∧bD≤w2.heap.size+0∧bD < w3.heap.size:=⟨Nat.le_of_eq hbD.symm,Nat.le_of_eq hbD,zah X2_w3.o⟩
 have zw3:w2.heap.size≤w3.heap.size:=hb.size;have B_w3:=zaa (zab B_w2.o hb B_w2.o.size);have X0_w3:=zaa (zac X0_w2.o hb (zah X0_w2.o));have X1_w3:=zaa (zac X1_w2.o hb (zah X1_w2.o));have RD_w3:=zaa (RD_w2.o.below hb);clear B_w2 hb X0_w2 X1_w2 RD_w2;go_upto_region 8 with fail;rw[← hw3];rw[← hbD];clear hw3 hbD;obtain ⟨c2_0,c2_1,-,-,-⟩:=zaf X2_w3.o;go_wp2_with fail;refine (RP.o _ w3 (yahk RD_w3.o)).mono ?_;rintro e w4 ⟨v',rfl,hr,hb⟩;obtain ⟨-,iL,jL,rfl,hcp,-⟩:=id hr.rd;clear c2_0 c2_1;have zw4:w3.heap.size≤w4.heap.size:=hb.size;have B_w4:=zaa (zab B_w3.o hb B_w3.o.size);have X0_w4:=zaa (zac X0_w3.o hb (zah X0_w3.o));have X1_w4:=zaa (zac X1_w3.o hb (zah X1_w3.o));have X2_w4:=zaa (zac X2_w3.o hb (zah X2_w3.o));have RD_w4:=zaa (RD_w3.o.below hb);clear B_w3 hb X0_w3 X1_w3 X2_w3 RD_w3;have cpL:=hcp.1;have RL_w4:Hid (RdM w4 (.slice iL l.length jL) l):=hr.rd;clear hr RP hcp
 by_cases cz:rc=0
 case neg =>
  have eR:Hid (zne ws ps es qs hs td cd vl nm fr zs (n:Int) gs=(zz,rc)):=by unfold Hid;rw[eS.o,if_neg cz]
  clear eS LA C2 RC len RL_w4 RD_w4;obtain ⟨d0,d1,d2,d3,d4,d5,d6,d7,d8,d9,g0,g1,g2,g3,g4,g5,g6,g7,g8,g9⟩:=zam X1_w4.o
  obtain ⟨w5,hw5⟩:∃ w5,w5=((((((((((w4.setCell ⟨w.heap.size+1,0,none⟩ (.slice none 0 0)).setCell ⟨w.heap.size+1,1,none⟩ (.slice none 0 0)).setCell ⟨w.heap.size+1,2,none⟩ (.slice none 0 0)).setCell ⟨w.heap.size+1,3,none⟩ (.slice none 0 0)).setCell ⟨w.heap.size+1,4,none⟩ (.slice none 0 0)).setCell ⟨w.heap.size+1,5,none⟩ (.slice none 0 0)).setCell ⟨w.heap.size+1,6,none⟩ (.int .i64 0)).setCell ⟨w.heap.size+1,7,none⟩ (.int .i64 0)).setCell ⟨w.heap.size+1,8,none⟩ (.slice none 0 0)).setCell ⟨w.heap.size+1,9,none⟩ (.bool false)):=⟨_,rfl⟩
  have Ow5:Outside (w.heap.size+1) (w.heap.size+1+1) w4 w5:=by
   rw[hw5]
   repeat (refine Outside.setCell ?_ (by simp only;omega) (by simp only;omega) _)
   exact Outside.refl _ _ _
  have zw5:w4.heap.size≤w5.heap.size∧w5.heap.size≤w4.heap.size:=by rw[hw5];simp[World.setCell]
  have B_w5:=zaa (B_w4.o.trans (Ow5.below (B:=w.heap.size) (by omega) B_w4.o.size));have X0_w5:=zaa ((Ow5.block (w.heap.size) (zah X0_w4.o) (by omega)).trans X0_w4.o);have X2_w5:=zaa ((Ow5.block (bD) (zah X2_w4.o) (by omega)).trans X2_w4.o)
  have X1_w5:Hid (w5.heap[w.heap.size+1]?=some (.cells #[.slice none 0 0,.slice none 0 0,.slice none 0 0,.slice none 0 0,.slice none 0 0,.slice none 0 0,.int .i64 0,.int .i64 0,.slice none 0 0,.bool false] 51 (0,0))):=by rw[hw5];exact (zcl (zcd (zcg (zcj (zcc (zca (zbu (zbq (zbs (zbv X1_w4.o _) _) _) _) _) _) _) _) _) _)
  clear Ow5;go_wp2;refine bodyPost_ret (v:=.tuple #[.agg #[.slice none 0 0,.slice none 0 0,.slice none 0 0,.slice none 0 0,.slice none 0 0,.slice none 0 0,.int .i64 0,.int .i64 0,.slice none 0 0,.bool false],.int .i64 rc]) (by simp[results,Tryz.results17,go_sem,d0,d1,d2,d3,d4,d5,d6,d7,d8,d9]) rfl ?_;rw[← hw5,eR.o];exact ⟨_,rfl,(RowF.zero _ _).wide (Nat.le_refl _) (by omega),B_w5.o⟩
 subst cz
 have eR:Hid (zne ws ps es qs hs td cd vl nm fr zs (n:Int) gs=RR):=by unfold Hid;rw[eS.o,if_pos rfl]
 clear eS
 have SK:Hid (∀ w',Below w4.heap.size w4 w'→w'.cell? ⟨bD,0,none⟩=some (.slice iW W1.length jW)∧w'.cell? ⟨bD,1,none⟩=some (.slice iP P1.length jP)∧w'.cell? ⟨bD,2,none⟩=some (.slice iS E1.length jS)∧w'.cell? ⟨bD,3,none⟩=some (.slice iQ Q1.length jQ)):=fun w' hb=>by
  obtain ⟨a0,a1,a2,a3,-⟩:=zaf (zac X2_w4.o hb (zah X2_w4.o));exact ⟨a0,a1,a2,a3⟩
 obtain ⟨mn,RT,hmn⟩:∃ mn:Nat,Hid (RdM w4 (.slice iL mn jL) (l.take n))∧Hid ((mn:Int)=min (n:Int) (l.length:Int)∧mn≤l.length):=by
  by_cases cn:n≤l.length
  ·exact ⟨n,znx RL_w4.o cn,by show _=_;omega,cn⟩
  ·refine ⟨l.length,?_,by show _=_;omega,Nat.le_refl _⟩;have q:=znx RL_w4.o (Nat.le_refl _);rw[List.take_length] at q;unfold Hid;rw[List.take_of_length_le (by omega)];exact q
 have m1:=hmn.o.1
 have m2:(mn:Int)≤(jL:Int):=by have:=hmn.o.2;omega
 have m0:(0:Int)≤(mn:Int):=by omega
 have m3:=hmn.o.2;rw[eq_comm] at m1;obtain ⟨x0,x1,x2,x3,-⟩:=zaf X2_w4.o;go_upto_region 11 with fail
 go_region_law (first
   | (go_simp;go_at_call 45;refine (LA.o _ _ _ _ _ _ (RD_w4.o.below (by repeat (first | with_reducible exact Below.refl _ _ | with_reducible refine Below.drew ?_))) (Rd.below RT.o (by repeat (first | with_reducible exact Below.refl _ _ | with_reducible refine Below.drew ?_)))).mono ?_;rintro e wa ⟨yW,yP,yS,yQ,rfl,hra,hba⟩;have BA:Hid (Below w4.heap.size w4 wa):=belY (by repeat (first | with_reducible exact Below.refl _ _ | with_reducible refine Below.drew ?_)) hba;obtain ⟨oW,pW,oP,pP,oS,pS,oQ,pQ,eo,-,-⟩:=hra.form;cases eo;have RA:=zaa hra;clear hra hba)
   | (go_simp;go_at_call 27;refine (C2.o _ (zab B_w4.o (belY BA.o (by repeat (first | with_reducible exact Below.refl _ _ | with_reducible refine Below.drew ?_))) B_w4.o.size) _ (RA.o.below (by repeat (first | with_reducible exact Below.refl _ _ | with_reducible refine Below.drew ?_)))).mono ?_;rintro e wb ⟨v',rfl,hrb,hbb⟩;have BB:Hid (Below w4.heap.size w4 wb):=belY BA.o (belY (by repeat (first | with_reducible exact Below.refl _ _ | with_reducible refine Below.drew ?_)) hbb);obtain ⟨rW,tW,rP,tP,rS,tS,rQ,tQ,er,-,-⟩:=hrb.rd.form;subst er;have RB:Hid (RowDev wb wa.heap.size wb.heap.size _ W4 P1 E4 Q1):=hrb;have XD:=zaa (zac X2_w4.o BB.o (zah X2_w4.o));obtain ⟨t0,t1,t2,t3,t4,t5,t6,t7⟩:=zaf XD.o;clear hrb hbb))
 all_goals
  have zwa:w4.heap.size≤wa.heap.size:=BA.o.size;have zwb:w4.heap.size≤wb.heap.size:=BB.o.size;have B_wb:=zaa (zab B_w4.o BB.o B_w4.o.size);have X0_wb:=zaa (zac X0_w4.o BB.o (zah X0_w4.o));have X1_wb:=zaa (zac X1_w4.o BB.o (zah X1_w4.o))
  obtain ⟨w9,hw9⟩:∃ w9,w9=zix wb bD (.slice rW W4.length tW) (.slice rP P1.length tP) (.slice rS E4.length tS) (.slice rQ Q1.length tQ):=⟨_,rfl⟩
  have O9:Outside bD (bD+1) wb w9:=by rw[hw9];exact zbb _ _ _ _ _ _
  have z9:wb.heap.size≤w9.heap.size:=by rw[hw9,zax];exact Nat.le_refl _
  have B_w9:=zaa (B_wb.o.trans (O9.below (B:=w.heap.size) (by omega) B_wb.o.size));have X0_w9:=zaa ((O9.block (w.heap.size) (zah X0_wb.o) (by omega)).trans X0_wb.o);have X1_w9:=zaa ((O9.block (w.heap.size+1) (zah X1_wb.o) (by omega)).trans X1_wb.o)
  have X2_w9:Hid (w9.heap[bD]?=some (.cells #[.slice rW W4.length tW,.slice rP P1.length tP,.slice rS E4.length tS,.slice rQ Q1.length tQ] 45 (0,0))):=by rw[hw9];exact yalx XD.o
  have RE:=zaa ((RB.o.outside O9 (by omega) (by omega)).rd);unfold zix at hw9;go_upto_region 12 with fail;rw[← hw9];clear hw9 O9 B_wb X0_wb X1_wb XD RB RA BA BB SK RT RL_w4 RD_w4 t0 t1 t2 t3 t4 t5 t6 t7 x0 x1 x2 x3 LA C2 B_w4 X0_w4 X1_w4 X2_w4 m0 m1 m2 m3 hmn;obtain ⟨c2_0,c2_1,c2_2,c2_3,-⟩:=zaf X2_w9.o;obtain ⟨⟨ws2,ps2,es2,qs2,hs2,td2,cd2,vl2,nm2,fr2⟩,rc9⟩:=RR;simp only[zis] at RC;go_wp2_with fail;refine (RC.o w9 _ RE.o).mono ?_;rintro e w25 ⟨v',rfl,hr,hb⟩;obtain ⟨qW,uW,qP,uP,qS,uS,qQ,uQ,qH,uH,qT,uT,qN,uN,eo⟩:=hr.form;subst eo;clear c2_0 c2_1 c2_2 c2_3;have zw25:w9.heap.size≤w25.heap.size:=hb.size;have B_w25:=zaa (zab B_w9.o hb B_w9.o.size);have X0_w25:=zaa (zac X0_w9.o hb (zah X0_w9.o));have X1_w25:=zaa (zac X1_w9.o hb (zah X1_w9.o));have X2_w25:=zaa (zac X2_w9.o hb (zah X2_w9.o));clear B_w9 hb X0_w9 X1_w9 X2_w9;have QF_w25:Hid (RowF w25 w9.heap.size w25.heap.size _ ws2 ps2 es2 qs2 hs2 td2 cd2 vl2 nm2 fr2):=hr;clear hr RC RE;obtain ⟨d0,d1,d2,d3,d4,d5,d6,d7,d8,d9,g0,g1,g2,g3,g4,g5,g6,g7,g8,g9⟩:=zam X1_w25.o
  obtain ⟨w26,hw26⟩:∃ w26,w26=((((((((((w25.setCell ⟨w.heap.size+1,0,none⟩ (.slice qW ws2.length uW)).setCell ⟨w.heap.size+1,1,none⟩ (.slice qP ps2.length uP)).setCell ⟨w.heap.size+1,2,none⟩ (.slice qS es2.length uS)).setCell ⟨w.heap.size+1,3,none⟩ (.slice qQ qs2.length uQ)).setCell ⟨w.heap.size+1,4,none⟩ (.slice qH hs2.length uH)).setCell ⟨w.heap.size+1,5,none⟩ (.slice qT td2.length uT)).setCell ⟨w.heap.size+1,6,none⟩ (.int .i64 cd2)).setCell ⟨w.heap.size+1,7,none⟩ (.int .i64 vl2)).setCell ⟨w.heap.size+1,8,none⟩ (.slice qN nm2.length uN)).setCell ⟨w.heap.size+1,9,none⟩ (.bool fr2)):=⟨_,rfl⟩
  have Ow26:Outside (w.heap.size+1) (w.heap.size+1+1) w25 w26:=by
   rw[hw26]
   repeat (refine Outside.setCell ?_ (by simp only;omega) (by simp only;omega) _)
   exact Outside.refl _ _ _
  have zw26:w25.heap.size≤w26.heap.size∧w26.heap.size≤w25.heap.size:=by rw[hw26];simp[World.setCell]
  have B_w26:=zaa (B_w25.o.trans (Ow26.below (B:=w.heap.size) (by omega) B_w25.o.size));have X0_w26:=zaa ((Ow26.block (w.heap.size) (zah X0_w25.o) (by omega)).trans X0_w25.o);have X2_w26:=zaa ((Ow26.block (bD) (zah X2_w25.o) (by omega)).trans X2_w25.o)
  have X1_w26:Hid (w26.heap[w.heap.size+1]?=some (.cells #[.slice qW ws2.length uW,.slice qP ps2.length uP,.slice qS es2.length uS,.slice qQ qs2.length uQ,.slice qH hs2.length uH,.slice qT td2.length uT,.int .i64 cd2,.int .i64 vl2,.slice qN nm2.length uN,.bool fr2] 51 (0,0))):=by rw[hw26];exact (zcl (zcd (zcg (zcj (zcc (zca (zbu (zbq (zbs (zbv X1_w25.o _) _) _) _) _) _) _) _) _) _)
  have QF_w26:=zaa (QF_w25.o.outside Ow26 (by omega) (by omega));clear Ow26;go_wp2;refine bodyPost_ret (v:=.tuple #[.agg #[.slice qW ws2.length uW,.slice qP ps2.length uP,.slice qS es2.length uS,.slice qQ qs2.length uQ,.slice qH hs2.length uH,.slice qT td2.length uT,.int .i64 cd2,.int .i64 vl2,.slice qN nm2.length uN,.bool fr2],.int .i64 rc9]) (by simp[results,Tryz.results17,go_sem,d0,d1,d2,d3,d4,d5,d6,d7,d8,d9]) rfl ?_;rw[← hw26,eR.o];exact ⟨_,rfl,QF_w26.o.wide (by omega) (by omega),B_w26.o⟩
end Go.Proofs.YtahiphgmhndgaaaGreatDoor
