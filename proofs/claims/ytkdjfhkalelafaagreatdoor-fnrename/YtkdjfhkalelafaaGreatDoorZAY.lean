/- Several texts laid together: OpM, BlkSm, BlkOwn, BlkWrite, BlkBar, MicD. -/
import Derived.Test.YtkdjfhkalelafaaGreatDoorZAX
import Derived.Test.YtkdjfhkalelafaaGreatDoorZAS
import Derived.Deep.RegionLaw
import Derived.Test.YtkdjfhkalelafaaGreatDoorZAQ
import Derived.Test.YtkdjfhkalelafaaGreatDoorZAP
import Derived.Deep.RegionWith
import Derived.Deep.DeepCutAuto
namespace Go.Proofs.YtkdjfhkalelafaaGreatDoor
open Go.RowKit
def Wv (us:List Se):Prop:=∀ u ∈ us,0 ≤ u.val ∧ u.val < 1099511627776
theorem Wv.app {us vs:List Se} (h:Wv us) (k:Wv vs):Wv (us ++ vs):=fun u hu => by
 rcases List.mem_append.1 hu with q | q
 ·exact h u q
 ·exact k u q
theorem Wv.one {a x:Int} (h:0 ≤ x ∧ x < 1099511627776):Wv [⟨a,x⟩]:=fun u hu => by
 rw [List.mem_singleton.1 hu]
 exact h
theorem Wv.cons {a x:Int} {us:List Se} (h:0 ≤ x ∧ x < 1099511627776) (k:Wv us):Wv (⟨a,x⟩ :: us):=fun u hu => by
 rcases List.mem_cons.1 hu with rfl | q
 ·exact h
 ·exact k u q
theorem zzn {k:Int} {x:Den} (hd:0 ≤ x.dir ∧ x.dir ≤ 15) (hn:nmB x.name = true ∨ x.name.size = 0) (hc:-1 ≤ x.child ∧ x.child ≤ 15):Wv (enL k x):=by
 unfold enL
 refine Wv.cons (by omega) (Wv.cons ?_ (Wv.one (by omega)))
 rcases hn with q | q
 ·have:=yarl (s:=x.name) (k:=x.name.size) (fun j hj _ => (zdc q).2.2 j hj) (zdc q).2.1
  omega
 ·rw [yahp q]
  omega
theorem yaqv {i:Int}:Wv (wrL i zhu 8):=fun u hu => by
 unfold wrL at hu
 rcases List.mem_append.1 hu with q | q
 ·simp only [List.mem_cons,List.not_mem_nil,or_false] at q
  rcases q with rfl | rfl | rfl
  all_goals exact ⟨Int.le_refl 0,show (0:Int) < 1099511627776 by decide⟩
 ·obtain ⟨j,hj,rfl⟩:=List.mem_map.1 q
  have hj8:=List.mem_range.1 hj
  have e:zhu.map.getD j 0 = 0:=by
   rcases (show j = 0 ∨ j = 1 ∨ j = 2 ∨ j = 3 ∨ j = 4 ∨ j = 5 ∨ j = 6 ∨ j = 7 by omega) with rfl | rfl | rfl | rfl | rfl | rfl | rfl | rfl <;> rfl
  exact ⟨by show 0 ≤ zhu.map.getD j 0; rw [e]; omega,by show zhu.map.getD j 0 < 1099511627776; rw [e]; omega⟩
theorem yatn {ws:List Ino} {ps:List Den} {s:ByteArray} {kind:Int} {us:List Se} (h:Img ws ps) (hk:1 ≤ kind ∧ kind ≤ 2) (e:mkI ws ps s kind = (us,0)):Wv us:=by
 unfold mkI at e
 by_cases c:(paI ws ps s).2.2 = 0
 ·rw [if_pos c] at e
  obtain ⟨p1,-,p3⟩:=zhf (zbz.2 h) c
  unfold mkN at e
  split at e
  ·simp at e
  ·split at e
   ·simp at e
   ·rename_i f1
    split at e
    ·simp at e
    ·obtain ⟨rfl,-⟩:=Prod.mk.inj e
     obtain ⟨i,ei,hi,-⟩:=zww h f1
     rw [ei]
     unfold mkU
     exact Wv.app (Wv.cons (by omega) (Wv.one (by omega))) (zzn p1 (.inl p3) (by show -1 ≤ (i:Int) ∧ (i:Int) ≤ 15; omega))
 ·rw [if_neg c] at e
  exact absurd (Prod.mk.inj e).2 c
theorem yaii {ws:List Ino} {ps:List Den} (h:Img ws ps) {i:Nat} (hi:i < 16):0 ≤ zeo ws (i:Int) ∧ zeo ws (i:Int) ≤ 24:=(zcp (h.ok i hi)).2.2.1
theorem yaxk {ws:List Ino} {ps:List Den} {s:ByteArray} {us:List Se} (h:Img ws ps) (e:rmI ws ps s = (us,0)):Wv us:=by
 unfold rmI at e
 by_cases c:(paI ws ps s).2.2 = 0
 ·rw [if_pos c] at e
  unfold rmN at e
  cases q:zax ps (paI ws ps s).1 (paI ws ps s).2.1 with
  | none => rw [q] at e; simp at e
  | some k =>
   rw [q] at e
   simp only at e
   obtain ⟨hk,i,ei,_,hi,-⟩:=zls h q
   unfold rmC at e
   split at e
   ·simp at e
   ·obtain ⟨rfl,-⟩:=Prod.mk.inj e
    have l:=yaii h hi
    rw [ei]
    unfold rmU
    have f:Wv (enL (k:Int) freeD):=zzn (by decide) (.inr rfl) (by decide)
    split
    ·exact Wv.app f (Wv.one (by omega))
    ·exact Wv.app f yaqv
 ·rw [if_neg c] at e
  exact absurd (Prod.mk.inj e).2 c
theorem yaxe {ws:List Ino} {ps:List Den} {s t:ByteArray} {us:List Se} (h:Img ws ps) (e:lnI ws ps s t = (us,0)):Wv us:=by
 unfold lnI at e
 by_cases c0:(lkI ws ps s).2 = 0
 ·rw [if_pos c0] at e
  split at e
  ·simp at e
  ·rename_i kk
   obtain ⟨i,ei,hi,_,_⟩:=zmj h c0 kk
   unfold lnP at e
   by_cases c:(paI ws ps t).2.2 = 0
   ·rw [if_pos c] at e
    obtain ⟨p1,-,p3⟩:=zhf (zbz.2 h) c
    unfold lnN at e
    split at e
    ·simp at e
    ·split at e
     ·simp at e
     ·obtain ⟨rfl,-⟩:=Prod.mk.inj e
      have l:=yaii h hi
      rw [ei]
      exact Wv.app (zzn p1 (.inl p3) (by show -1 ≤ (i:Int) ∧ (i:Int) ≤ 15; omega)) (Wv.one (by omega))
   ·rw [if_neg c] at e
    exact absurd (Prod.mk.inj e).2 c
 ·rw [if_neg c0] at e
  exact absurd (Prod.mk.inj e).2 c0
theorem yasx {ws:List Ino} {ps:List Den} {s t:ByteArray} {us:List Se} (h:Img ws ps) (e:rnI ws ps s t = (us,0)):Wv us:=by
 unfold rnI at e
 by_cases c:(paI ws ps s).2.2 = 0
 ·rw [if_pos c] at e
  unfold rnE at e
  cases q:zax ps (paI ws ps s).1 (paI ws ps s).2.1 with
  | none => rw [q] at e; simp at e
  | some k =>
   rw [q] at e
   simp only at e
   obtain ⟨hk,i,ei,_,hi,-⟩:=zls h q
   unfold rnP at e
   by_cases d:(paI ws ps t).2.2 = 0
   ·rw [if_pos d] at e
    obtain ⟨p1,-,p3⟩:=zhf (zbz.2 h) d
    unfold rnN at e
    split at e
    ·simp at e
    ·split at e
     ·simp at e
     ·obtain ⟨rfl,-⟩:=Prod.mk.inj e
      rw [ei]
      exact zzn p1 (.inl p3) (by show -1 ≤ (i:Int) ∧ (i:Int) ≤ 15; omega)
   ·rw [if_neg d] at e
    exact absurd (Prod.mk.inj e).2 d
 ·rw [if_neg c] at e
  exact absurd (Prod.mk.inj e).2 c
theorem yauk {ns:List Ino} {ds:List Den} {s:ByteArray} {g:Int} {us:List Se} (h:Img ns ds) (e:cuI ns ds s g = (us,0)):UpIn us ∧ us.length ≤ 16 ∧ Wv us:=by
 unfold cuI at e
 by_cases c:(flI ns ds s).2 = 0
 ·rw [if_pos c] at e
  obtain ⟨i,hi,ei,-⟩:=zgu h c
  rw [ei] at e
  unfold cuF at e
  split at e
  ·rename_i d
   obtain ⟨rfl,-⟩:=Prod.mk.inj e
   have l:=zye (zan ns ((i:Nat):Int).toNat).map (i:Int) g.toNat 8
   unfold cuU
   refine ⟨fun u hu => ?_,by show (cuT _ _ _ _).length + 1 ≤ 16; omega,Wv.cons (by omega) (fun u hu => ?_)⟩
   ·rcases List.mem_cons.1 hu with rfl | q
    ·exact ⟨by show 48 ≤ 48 + 12 * (i:Int) + 1; omega,by show 48 + 12 * (i:Int) + 1 < 312; omega⟩
    ·exact yatp hi (Nat.le_refl 8) u q
   ·unfold cuT at hu
    obtain ⟨j,-,rfl⟩:=List.mem_map.1 hu
    exact ⟨Int.le_refl 0,show (0:Int) < 1099511627776 by decide⟩
  ·simp at e
 ·rw [if_neg c] at e
  exact absurd (Prod.mk.inj e).2 c
theorem yavc {ws:List Ino} {ps:List Den} {s:ByteArray} {kind:Int}:¬ (mkI ws ps s kind).2 = 0 → (mkI ws ps s kind).1 = []:=by
 unfold mkI mkN
 repeat' split
 all_goals simp
theorem yawm {ws:List Ino} {ps:List Den} {s:ByteArray}:¬ (rmI ws ps s).2 = 0 → (rmI ws ps s).1 = []:=by
 unfold rmI rmN rmC
 repeat' split
 all_goals simp
theorem yaxd {ws:List Ino} {ps:List Den} {s t:ByteArray}:¬ (lnI ws ps s t).2 = 0 → (lnI ws ps s t).1 = []:=by
 unfold lnI lnP lnN
 repeat' split
 all_goals simp
theorem yavg {ws:List Ino} {ps:List Den} {s t:ByteArray}:¬ (rnI ws ps s t).2 = 0 → (rnI ws ps s t).1 = []:=by
 unfold rnI rnE rnP rnN
 repeat' split
 all_goals simp
theorem yaxm {ns:List Ino} {ds:List Den} {s:ByteArray} {g:Int}:¬ (cuI ns ds s g).2 = 0 → (cuI ns ds s g).1 = []:=by
 unfold cuI cuF
 repeat' split
 all_goals simp
theorem yavv {ns:List Ino} {ds:List Den} {k:Int} {p t:ByteArray} {g:Int}:¬ (uoI ns ds k p t g).2 = 0 → (uoI ns ds k p t g).1 = []:=by
 unfold uoI
 split
 ·exact yavc
 split
 ·exact yavc
 split
 ·exact yawm
 split
 ·exact yaxd
 split
 ·exact yavg
 ·exact yaxm
theorem yaqi {ns:List Ino} {ds:List Den} {k:Int} {p t:ByteArray} {g:Int} (h:Img ns ds) (c:(uoI ns ds k p t g).2 = 0):UpIn (uoI ns ds k p t g).1 ∧ (uoI ns ds k p t g).1.length ≤ 16 ∧ Wv (uoI ns ds k p t g).1:=by
 have E:∀ r:List Se × Int,r.2 = 0 → r = (r.1,0):=fun r q => by rw [← q]
 revert c
 unfold uoI
 by_cases c1:k = 1
 ·rw [if_pos c1]
  exact fun c => ⟨(yapm h (E _ c)).1,(yapm h (E _ c)).2,yatn h ⟨by decide,by decide⟩ (E _ c)⟩
 rw [if_neg c1]
 by_cases c2:k = 2
 ·rw [if_pos c2]
  exact fun c => ⟨(yapm h (E _ c)).1,(yapm h (E _ c)).2,yatn h ⟨by decide,by decide⟩ (E _ c)⟩
 rw [if_neg c2]
 by_cases c3:k = 3
 ·rw [if_pos c3]
  exact fun c => ⟨(yavd h (E _ c)).1,(yavd h (E _ c)).2,yaxk h (E _ c)⟩
 rw [if_neg c3]
 by_cases c4:k = 4
 ·rw [if_pos c4]
  exact fun c => ⟨(yavi h (E _ c)).1,(yavi h (E _ c)).2,yaxe h (E _ c)⟩
 rw [if_neg c4]
 by_cases c5:k = 5
 ·rw [if_pos c5]
  exact fun c => ⟨(yamy h (E _ c)).1,(yamy h (E _ c)).2,yasx h (E _ c)⟩
 rw [if_neg c5]
 exact fun c => yauk h (E _ c)
theorem yaty {ns:List Ino} {ds:List Den} {k:Int} {p t:ByteArray} {g:Int} (h:Img ns ds):(uoI ns ds k p t g).1.length ≤ 64 ∧ ∀ j (q:j < (uoI ns ds k p t g).1.length),0 ≤ (uoI ns ds k p t g).1[j].at_ ∧ (uoI ns ds k p t g).1[j].at_ < 336:=by
 by_cases c:(uoI ns ds k p t g).2 = 0
 ·obtain ⟨a,b,-⟩:=yaqi h c
  refine ⟨by omega,fun j q => ?_⟩
  have:=a _ (List.getElem_mem q)
  omega
 ·have e:=yavv c
  exact ⟨by rw [e]; simp,fun j q => by rw [e] at q; cases q⟩
theorem yakw (ps:List Se):∀ u ∈ ses ps,u.oneCell' = true:=by
 intro u hu
 simp only [ses,List.mem_flatMap,Se.cells] at hu
 obtain ⟨s,_,hs⟩:=hu
 simp at hs
 rcases hs with rfl | rfl <;> rfl
theorem yaoz (ps:List Se) (s:Se):ses (ps ++ [s]) = ses ps ++ s.cells:=by simp [ses]
theorem RdE.form {w:World} {v:Value} {ps:List Se} (h:RdE w v ps) {n:Nat} (hn:ps.length = n):∃ ao cap,v = .slice ao n cap:=by
 obtain ⟨ao,cap,e,_⟩:=h.shape
 exact ⟨ao,cap,by rw [← hn]; exact e⟩
theorem yavz (w1:World) (a x:Int):Rd (w1.alloc (.cells #[.int .i64 a,.int .i64 x] 180)) 2 (.slice (some ⟨w1.heap.size,0,none⟩) 1 1) 1 (Se.cells ⟨a,x⟩):=by
 refine ⟨rfl,_,_,rfl,⟨Nat.le_refl _,fun e => by cases e⟩,fun _ => ⟨w1.heap.size,0,rfl,by simp,fun j hj => ?_⟩⟩
 obtain ⟨e0,e1,_,_⟩:=zac (zah (w:=w1) (o:=.cells #[.int .i64 a,.int .i64 x] 180) rfl)
 rw [Nat.zero_add]
 rcases (show j = 0 ∨ j = 1 from by omega) with rfl | rfl
 ·exact e0
 ·exact e1
def yart (w:World) (lo hi:Nat) (v:Value) (ws:List Int) (ps:List Se):Prop:=∃ vW vP,v = .agg #[vW,vP] ∧ Row w 3 1 lo hi vW ws.length (zdh ws) ∧ Row w 180 2 lo hi vP ps.length (ses ps)
set_option maxHeartbeats 2000000 in
theorem yacz (v:Value) (ws:List Int) (ps:List Se) (w:World) (h:RdBlk w v ws ps) (hw:ws.length ≤ 2147483648) (hp:ps.length ≤ 2147483648) :
  Calls Tryz.prog 149 #[v] w fun e w' => ∃ v',e = .returned v' ∧ yart w' w.heap.size w'.heap.size v' ws ps ∧ Below w.heap.size w w':=by
 obtain ⟨vW,vP,rfl,h1,h2⟩:=h
 have H1:=zaa h1
 have H2:=zaa h2
 obtain ⟨aW,cW,rfl,_⟩:=h1.shape
 obtain ⟨aP,cP,rfl,_⟩:=h2.shape
 clear h1 h2
 have hb0:Below w.heap.size w (((w.alloc (.cells #[.slice aW ws.length cW,.slice aP ps.length cP] 29)).alloc (.cells #[.slice none 0 0,.slice none 0 0] 29)).alloc (.cells #[] 3)):=by
  repeat (refine Below.alloc ?_ (by simp <;> omega) _)
  exact Below.refl _ _
 have ho0:(((w.alloc (.cells #[.slice aW ws.length cW,.slice aP ps.length cP] 29)).alloc (.cells #[.slice none 0 0,.slice none 0 0] 29)).alloc (.cells #[] 3)).ownsRow (w.heap.size + 2) 3 1 (.slice (some ⟨w.heap.size + 1 + 1,0,none⟩) 0 0) 0 []:=by
  simpa using World.ownsRow_lit (base:=w.heap.size + 2) (e:=3) (size:=1) ((w.alloc (.cells #[.slice aW ws.length cW,.slice aP ps.length cP] 29)).alloc (.cells #[.slice none 0 0,.slice none 0 0] 29)) #[] 0 (by simp) (by simp) rfl
 have HO:=zaa ho0
 have HB:=zaa hb0
 clear ho0 hb0
 go_enter Tryz.func149,Tryz.ntmps149
 go_wp2_with (at_builtin; refine zae _ rfl (.tmp 3) (.tmp 5) 23 rfl (w.heap.size + 2) 3 (.int .i64 0) 1 8 Tryz.underlying23 zld rfl (by decide) _ 0 [] rfl HO.out _ ws.length (zdh ws) rfl (Rd.below H1.out HB.out) (zfm ws) (by simp [maxLen]; omega) (by omega) (by simp) ?_)
 intro v1 w1 hown1 hgr1
 have hown1:w1.ownsRow (w.heap.size + 2) 3 1 v1 ws.length (zdh ws):=by simpa using hown1
 have R1:=zaa (zad hown1)
 obtain ⟨_,a1,c1,rfl,_⟩:=(zad hown1).rd
 have hz1:w.heap.size + 3 ≤ w1.heap.size:=by have:=hgr1.size; simp at this; omega
 have V0:=(hgr1.block w.heap.size (by simp <;> omega) (by simp [Value.ownBlock] <;> omega)).trans (zak (zak (zah rfl)))
 have V1:=(hgr1.block (w.heap.size + 1) (by simp <;> omega) (by simp [Value.ownBlock] <;> omega)).trans (zak (zah (by simp)))
 have B1:=HB.out.grown hgr1 (by simp <;> omega) (fun k hk => by simp [Value.ownBlock] at hk; omega)
 have V0':=zak (o:=.cells #[] 180) (zmn V0 (.slice a1 ws.length c1))
 have V1':=zak (o:=.cells #[] 180) ((Below.heap_setCell w1 ⟨w.heap.size,0,none⟩ (.slice a1 ws.length c1) (w.heap.size + 1) (by simp)).trans V1)
 obtain ⟨x1,x2,x3,x4⟩:=zac V0
 obtain ⟨x5,x6,x7,x8⟩:=zac V0'
 have HV:=zaa (And.intro V0' V1')
 have hB2:=(B1.setCell (p:=⟨w.heap.size,0,none⟩) (Nat.le_refl _) (.slice a1 ws.length c1)).alloc (by simp; omega) (.cells #[] 180)
 have ho2:((w1.setCell ⟨w.heap.size,0,none⟩ (.slice a1 ws.length c1)).alloc (.cells #[] 180)).ownsRow w1.heap.size 180 2 (.slice (some ⟨w1.heap.size,0,none⟩) 0 0) 0 []:=by
  simpa using World.ownsRow_lit (base:=w1.heap.size) (e:=180) (size:=2) (w1.setCell ⟨w.heap.size,0,none⟩ (.slice a1 ws.length c1)) #[] 0 (by simp) (by simp) rfl
 have HB2:=zaa hB2
 have HO2:=zaa ho2
 clear hown1 hgr1 V0 V1 B1 V0' V1' hB2 ho2
 go_wp2_with (at_builtin; refine zae _ rfl (.tmp 8) (.tmp 10) 27 rfl w1.heap.size 180 (.agg #[.int .i64 0,.int .i64 0]) 2 16 Tryz.underlying27 zzb rfl (by decide) _ 0 [] rfl HO2.out _ ps.length (ses ps) rfl (Rd.below H2.out HB2.out) (yakw ps) (by simp [maxLen]; omega) (by omega) (by simp) ?_)
 intro v2 w2 hown2 hgr2
 have hown2:w2.ownsRow w1.heap.size 180 2 v2 ps.length (ses ps):=by simpa using hown2
 have R2:=zaa (zad hown2)
 obtain ⟨_,a2,c2,rfl,_⟩:=(zad hown2).rd
 have hz2:w1.heap.size + 1 ≤ w2.heap.size:=by have:=hgr2.size; simp at this; omega
 have V0:=(hgr2.block w.heap.size (by simp <;> omega) (by simp [Value.ownBlock]; omega)).trans HV.out.1
 have V1:=(hgr2.block (w.heap.size + 1) (by simp <;> omega) (by simp [Value.ownBlock]; omega)).trans HV.out.2
 have B2:=zaa (HB2.out.grown hgr2 (by simp <;> omega) (fun k hk => by simp [Value.ownBlock] at hk; omega))
 have K2:Hid (∀ b,w.heap.size + 2 ≤ b → b < w1.heap.size → w2.heap[b]? = w1.heap[b]?):=by
  intro b h1 h2
  rw [hgr2.block b (by simp <;> omega) (by simp [Value.ownBlock]; omega),zex,if_neg (by simp; omega),Below.heap_setCell _ _ _ _ (by simp only; omega)]
 obtain ⟨z1,z2,z3,z4⟩:=zac V0
 obtain ⟨t1,t2,t3,t4⟩:=zac V1
 clear hown2 hgr2 V0 V1
 go_wp2
 refine bodyPost_ret (v:=.agg #[.slice a1 ws.length c1,.slice a2 ps.length c2]) (by simp [results,Tryz.results149,go_sem,t1,t2]) rfl ?_
 refine ⟨_,rfl,⟨_,_,rfl,(R1.out.same fun b h1 h2 => ?_).wide (by omega) (by simp; omega),(R2.out.same fun b h1 h2 => ?_).wide (by omega) (by simp)⟩,?_⟩
 ·rw [Below.heap_setCell _ _ _ _ (by simp only; omega),Below.heap_setCell _ _ _ _ (by simp only; omega),Below.heap_setCell _ _ _ _ (by simp only; omega),K2.out b h1 h2]
 ·rw [Below.heap_setCell _ _ _ _ (by simp only; omega),Below.heap_setCell _ _ _ _ (by simp only; omega),Below.heap_setCell _ _ _ _ (by simp only; omega)]
 ·exact ((B2.out.setCell (by simp only; omega) _).setCell (by simp only; omega) _).setCell (by simp only; omega) _
theorem zqy (v:Value) (ws:List Int) (ps:List Se) (w:World) (h:RdBlk w v ws ps) (hw:ws.length ≤ 2147483648) (hp:ps.length ≤ 2147483648) :
  Calls Tryz.prog 149 #[v] w fun e w' => ∃ v',e = .returned v' ∧ RowBlk w' w.heap.size w'.heap.size v' ws ps ∧ Below w.heap.size w w' :=
 (yacz v ws ps w h hw hp).mono fun _ _ ⟨v',he,⟨vW,vP,hv,h1,h2⟩,hb⟩ => ⟨v',he,⟨vW,vP,hv,h1.z,h2⟩,hb⟩
set_option maxHeartbeats 4000000 in
theorem zvs (vW vP:Value) (ws:List Int) (ps:List Se) (at_ x:Int) (w:World) (h:RdBlk w (.agg #[vW,vP]) ws ps) (hp:ps.length ≤ 1048576) :
  Calls Tryz.prog 168 #[.agg #[vW,vP],.int .i64 at_,.int .i64 x] w fun e w' => ∃ vP',e = .returned (.agg #[vW,vP']) ∧ RdBlk w' (.agg #[vW,vP']) ws (ps ++ [⟨at_,x⟩]) ∧ (∀ k,vP'.ownBlock = some k → w.heap.size ≤ k) ∧ Below w.heap.size w w':=by
 obtain ⟨_,_,e0,h1,h2⟩:=h
 cases e0
 have H1:=zaa h1
 have H2:=zaa h2
 obtain ⟨aW,cW,rfl,_⟩:=h1.shape
 obtain ⟨aP,cP,rfl,_⟩:=h2.shape
 clear h1 h2
 have hb0:Below w.heap.size w (((w.alloc (.cells #[.slice aW ws.length cW,.slice aP ps.length cP] 29)).alloc (.cells #[.slice none 0 0,.slice none 0 0] 29)).alloc (.cells #[] 180)):=by
  repeat (refine Below.alloc ?_ (by simp <;> omega) _)
  exact Below.refl _ _
 have ho0:(((w.alloc (.cells #[.slice aW ws.length cW,.slice aP ps.length cP] 29)).alloc (.cells #[.slice none 0 0,.slice none 0 0] 29)).alloc (.cells #[] 180)).ownsRow (w.heap.size + 2) 180 2 (.slice (some ⟨w.heap.size + 1 + 1,0,none⟩) 0 0) 0 []:=by
  simpa using World.ownsRow_lit (base:=w.heap.size + 2) (e:=180) (size:=2) ((w.alloc (.cells #[.slice aW ws.length cW,.slice aP ps.length cP] 29)).alloc (.cells #[.slice none 0 0,.slice none 0 0] 29)) #[] 0 (by simp) (by simp) rfl
 have HO:=zaa ho0
 have HB:=zaa hb0
 clear ho0 hb0
 go_enter Tryz.func168,Tryz.ntmps168
 go_wp2_with (at_builtin; refine zae _ rfl (.tmp 7) (.tmp 9) 27 rfl (w.heap.size + 2) 180 (.agg #[.int .i64 0,.int .i64 0]) 2 16 Tryz.underlying27 zzb rfl (by decide) _ 0 [] rfl HO.out _ ps.length (ses ps) rfl (Rd.below H2.out HB.out) (yakw ps) (by simp [maxLen]; omega) (by omega) (by simp) ?_)
 intro v1 w1 hown1 hgr1
 have hown1:w1.ownsRow (w.heap.size + 2) 180 2 v1 ps.length (ses ps):=by simpa using hown1
 have hz1:w.heap.size + 3 ≤ w1.heap.size:=by have:=hgr1.size; simp at this; omega
 have V0:=(hgr1.block w.heap.size (by simp <;> omega) (by simp [Value.ownBlock] <;> omega)).trans (zak (zak (zah rfl)))
 have V1:=(hgr1.block (w.heap.size + 1) (by simp <;> omega) (by simp [Value.ownBlock] <;> omega)).trans (zak (zah (by simp)))
 have B1:=HB.out.grown hgr1 (by simp <;> omega) (fun k hk => by simp [Value.ownBlock] at hk; omega)
 have hB2:=B1.alloc (by omega) (.cells #[.int .i64 at_,.int .i64 x] 180)
 have V0':=zak (o:=.cells #[.int .i64 at_,.int .i64 x] 180) V0
 have V1':=zak (o:=.cells #[.int .i64 at_,.int .i64 x] 180) V1
 have ho2:=hown1.alloc (.cells #[.int .i64 at_,.int .i64 x] 180)
 have hr2:=yavz w1 at_ x
 have HV:=zaa (And.intro V0' V1')
 have HB2:=zaa hB2
 have HO2:=zaa ho2
 have HR2:=zaa hr2
 clear hown1 hgr1 V0 V1 B1 V0' V1' hB2 ho2 hr2
 go_wp2_with (at_builtin; refine zae _ rfl (.tmp 10) (.tmp 14) 27 rfl (w.heap.size + 2) 180 (.agg #[.int .i64 0,.int .i64 0]) 2 16 Tryz.underlying27 zzb rfl (by decide) _ ps.length (ses ps) rfl HO2.out _ 1 (Se.cells ⟨at_,x⟩) rfl HR2.out (fun u hu => by simp [Se.cells] at hu; rcases hu with rfl | rfl <;> rfl) (by simp [maxLen]; omega) (by omega) (by simp; omega) ?_)
 intro v2 w2 hown2 hgr2
 have hr3:RdE w2 v2 (ps ++ [⟨at_,x⟩]):=by
  have:=(zad hown2).rd
  unfold RdE
  rw [yaoz,List.length_append]
  exact this
 have L3:=zaa (fun k hk => (hown2.lt k hk).1)
 have R3:Hid (RdE w2 v2 (ps ++ [⟨at_,x⟩])):=hr3
 obtain ⟨_,a2,c2,e2,_⟩:=hr3
 simp only [List.length_append,List.length_singleton] at e2
 subst e2
 have hz2:w1.heap.size + 1 ≤ w2.heap.size:=by have:=hgr2.size; simp at this; omega
 have hne:∀ b,b < w.heap.size + 2 → ¬ some b = Value.ownBlock v1:=by
  intro b hb e
  have:=(HO2.out.lt b e.symm).1
  omega
 have V0:=(hgr2.block w.heap.size (by simp <;> omega) (hne _ (by omega))).trans HV.out.1
 have V1:=(hgr2.block (w.heap.size + 1) (by simp <;> omega) (hne _ (by omega))).trans HV.out.2
 have B2:=zaa (HB2.out.grown hgr2 (by simp <;> omega) (fun k hk => by have:=(HO2.out.lt k hk).1; omega))
 obtain ⟨z1,z2,z3,z4⟩:=zac V0
 obtain ⟨t1,t2,t3,t4⟩:=zac V1
 clear hown2 hgr2 V0 V1
 go_wp2
 refine bodyPost_ret (v:=.agg #[.slice aW ws.length cW,.slice a2 (ps.length + 1) c2]) (by simp [results,Tryz.results168,go_sem,t1,t2]) rfl ?_
 have B3:=((B2.out.setCell (p:=⟨w.heap.size,1,none⟩) (Nat.le_refl _) (.slice a2 (ps.length + 1) c2)).setCell (p:=⟨w.heap.size + 1,0,none⟩) (by simp only; omega) (.slice aW ws.length cW)).setCell (p:=⟨w.heap.size + 1,1,none⟩) (by simp only; omega) (.slice a2 (ps.length + 1) c2)
 refine ⟨_,rfl,⟨_,_,rfl,Rd.below H1.out B3,Rd.same R3.out (by simp) (fun b _ hb => ?_)⟩,fun b hb => by have:=L3.out b hb; omega,B3⟩
 have:=L3.out b hb
 rw [Below.heap_setCell _ _ _ _ (by simp only; omega),Below.heap_setCell _ _ _ _ (by simp only; omega),Below.heap_setCell _ _ _ _ (by simp only; omega)]
theorem zvj (v:Value) (ws:List Int) (ps:List Se) (at_ x:Int) (w:World) (h:RdBlk w v ws ps) (hp:ps.length ≤ 1048576) :
  Calls Tryz.prog 168 #[v,.int .i64 at_,.int .i64 x] w fun e w' => ∃ v',e = .returned v' ∧ RdBlk w' v' ws (ps ++ [⟨at_,x⟩]) ∧ Below w.heap.size w w':=by
 obtain ⟨vW,vP,rfl,h1,h2⟩:=h
 exact (zvs vW vP ws ps at_ x w ⟨_,_,rfl,h1,h2⟩ hp).mono fun _ _ ⟨vP',he,hr,_,hb⟩ => ⟨_,he,hr,hb⟩
def zxs (ws:List Int) (ps:List Se):List Int:=ps.foldl (fun acc p => acc.set p.at_.toNat p.val) ws
theorem yahw (ws:List Int) (ps:List Se) (p:Se):zxs ws (ps ++ [p]) = (zxs ws ps).set p.at_.toNat p.val:=by simp [zxs]
theorem zmi (ws:List Int):∀ ps:List Se,(zxs ws ps).length = ws.length:=by
 intro ps
 unfold zxs
 induction ps generalizing ws with
 | nil => rfl
 | cons p ps ih => rw [List.foldl_cons,ih]; simp
structure BarInv (w wr:World) (eZ:TypeId) (ws:List Int) (ps:List Se) (lo hi:Nat) (vW vP:Value) (m:Nat):Prop where
 words:Row wr eZ 1 lo hi vW ws.length (zdh (zxs ws (ps.take m)))
 pend:Row wr 180 2 lo hi vP ps.length (ses ps)
 box:wr.heap[w.heap.size]? = some (.cells #[vW,vP] 29 (0,0))
 res:wr.heap[w.heap.size + 1]? = some (.cells #[.slice none 0 0,.slice none 0 0] 29 (0,0))
 below:Below w.heap.size w wr
 size:hi ≤ wr.heap.size
theorem BarInv.hit {w wr:World} {eZ:TypeId} {ws:List Int} {ps:List Se} {lo hi:Nat} {b n cap:Nat} {vP:Value} {m:Nat} (h:BarInv w wr eZ ws ps lo hi (.slice (some ⟨b,0,none⟩) n cap) vP m) (he:eZ ≠ 180) (hm:m < ps.length) (hlo:w.heap.size + 2 ≤ lo) (hn:n = ws.length) :
  BarInv w (wr.setCell ⟨b,ps[m].at_.toNat,none⟩ (.int .i64 ps[m].val)) eZ ws ps lo hi (.slice (some ⟨b,0,none⟩) n cap) vP (m + 1):=by
 subst hn
 obtain ⟨h1,h3,h4,h5,h6,h7⟩:=h
 obtain ⟨_,hb1,hb2,_⟩:=h1.at
 have e1:zxs ws (ps.take (m + 1)) = (zxs ws (ps.take m)).set ps[m].at_.toNat ps[m].val:=by rw [zge ps m hm,yahw]
 refine ⟨?_,?_,?_,?_,?_,?_⟩
 ·rw [e1,← zif]
  exact h1.stored _ _
 ·exact h3.apart h1 (Ne.symm he) (World.ownsRow.stored h1.1 _ _).2
 ·rw [Below.heap_setCell _ _ _ _ (by simp only; omega)]; exact h4
 ·rw [Below.heap_setCell _ _ _ _ (by simp only; omega)]; exact h5
 ·exact h6.setCell (by simp only; omega) _
 ·simpa using h7
theorem BarInv.drew {w wr:World} {eZ:TypeId} {ws:List Int} {ps:List Se} {lo hi:Nat} {vW vP:Value} {m:Nat} (h:BarInv w wr eZ ws ps lo hi vW vP m):BarInv w wr.drew eZ ws ps lo hi vW vP m:=by
 obtain ⟨h1,h2,h4,h5,h6,h7⟩:=h
 exact ⟨h1.same (fun _ _ _ => rfl),h2.same (fun _ _ _ => rfl),h4,h5,h6.drew,h7⟩
set_option maxRecDepth 100000 in
set_option maxHeartbeats 4000000 in
theorem zpx (v:Value) (ws:List Int) (ps:List Se) (w:World) (h:RdBlk w v ws ps) (hw:ws.length ≤ 1048576) (hp:ps.length ≤ 1048576) (hok:∀ j (h:j < ps.length),0 ≤ ps[j].at_ ∧ ps[j].at_ < ws.length) :
  Calls Tryz.prog 169 #[v] w fun e w' => ∃ v',e = .returned v' ∧ RowBlk w' w.heap.size w'.heap.size v' (zxs ws ps) [] ∧ Below w.heap.size w w':=by
 have HR:=zaa h
 obtain ⟨vW,vP,rfl,h1,h2⟩:=h
 obtain ⟨aW,cW,rfl,_⟩:=h1.shape
 obtain ⟨aP,cP,rfl,_⟩:=h2.shape
 have HOK:=zaa hok
 clear h1 h2 hok
 have hb0:Below w.heap.size w ((w.alloc (.cells #[.slice aW ws.length cW,.slice aP ps.length cP] 29)).alloc (.cells #[.slice none 0 0,.slice none 0 0] 29)):=by
  repeat (refine Below.alloc ?_ (by simp <;> omega) _)
  exact Below.refl _ _
 go_enter Tryz.func169,Tryz.ntmps169
 go_wp2_with fail
 refine (zqy _ ws ps _ (HR.out.below hb0) (by omega) (by omega)).mono ?_
 rintro e w2 ⟨v2,rfl,hr2,hb2⟩
 obtain ⟨vW2,vP2,rfl,hI2,hS2⟩:=hr2
 obtain ⟨aW2,cW2,rfl⟩:=RdI.form hI2.rd rfl
 obtain ⟨aP2,cP2,rfl⟩:=RdE.form hS2.rd rfl
 obtain ⟨eZ,heZ,hI2⟩:=hI2
 simp only [World.size_alloc] at hI2 hS2
 have HE:=zaa heZ
 have hz2:w.heap.size + 2 ≤ w2.heap.size:=by have:=hb2.size; simp at this; omega
 have V0:=(hb2.block w.heap.size (by simp <;> omega)).trans (zak (zah rfl))
 have V1:=(hb2.block (w.heap.size + 1) (by simp)).trans (zah (by simp))
 have B2:=zab hb0 hb2 (by simp <;> omega)
 obtain ⟨x1,x2,x3,x4⟩:=zac V0
 have INV:Hid (BarInv w ((w2.setCell ⟨w.heap.size,0,none⟩ (.slice aW2 ws.length cW2)).setCell ⟨w.heap.size,1,none⟩ (.slice aP2 ps.length cP2)) eZ ws ps (w.heap.size + 1 + 1) w2.heap.size (.slice aW2 ws.length cW2) (.slice aP2 ps.length cP2) 0):=by
  refine ⟨?_,?_,?_,?_,?_,?_⟩
  ·refine hI2.same fun b hb1 _ => ?_
   rw [Below.heap_setCell _ _ _ _ (by simp only; omega),Below.heap_setCell _ _ _ _ (by simp only; omega)]
  ·refine hS2.same fun b hb1 _ => ?_
   rw [Below.heap_setCell _ _ _ _ (by simp only; omega),Below.heap_setCell _ _ _ _ (by simp only; omega)]
  ·exact zru (zmn V0 _) _
  ·rw [Below.heap_setCell _ _ _ _ (by simp only; omega),Below.heap_setCell _ _ _ _ (by simp only; omega)]
   exact V1
  ·exact (B2.setCell (by simp only; omega) _).setCell (by simp only; omega) _
  ·simp
 clear hb0 hb2 hI2 hS2 V0 V1 B2 heZ
 go_wp2
 go_loopw [3] (fun i wr => ∃ m:Nat,m ≤ ps.length ∧ i = .int .i64 m ∧ Hid (BarInv w wr eZ ws ps (w.heap.size + 1 + 1) w2.heap.size (.slice aW2 ws.length cW2) (.slice aP2 ps.length cP2) m)) (fun i _ => ps.length - (intOf i).toNat)
 case atStart => exact ⟨0,by omega,rfl,INV⟩
 case round =>
  obtain ⟨m,hm,rfl,I⟩:=hrel
  obtain ⟨y1,y2,y3,y4⟩:=zac I.out.box
  by_cases hlt:m < ps.length
  ·obtain ⟨_,ao',cap',e',_,hc⟩:=I.out.pend.rd
   cases e'
   obtain ⟨b,o,rfl,hbl,_⟩:=hc (by omega)
   obtain ⟨rfl,_,_,_,hfr,hcl⟩:=I.out.pend.at
   have e0:=(hcl (m * 2) (by omega)).trans (zsj _ m hlt)
   have e1:=(hcl (m * 2 + 1) (by omega)).trans (yald _ m hlt)
   obtain ⟨q0,q1⟩:=HOK.out m hlt
   obtain ⟨_,aw',cw',ew',_,hcw⟩:=I.out.words.rd
   cases ew'
   obtain ⟨bw,ow,rfl,hblw,_⟩:=hcw (by omega)
   obtain ⟨rfl,_,_,_,hfrw,hclw⟩:=I.out.words.at
   have hj:ps[m].at_.toNat < (zxs ws (ps.take m)).length:=by rw [zmi]; omega
   have g0:=hfrw ps[m].at_.toNat
   have g1:=(hclw ps[m].at_.toNat (by omega)).trans (zcu _ _ hj)
   have q1':ps[m].at_ < (ws.length:Int):=q1
   have hlt':(m:Int) < (ps.length:Int):=by omega
   have hge:(0:Int) ≤ (m:Int):=by omega
   clear hc hfr hcl hcw hfrw hclw
   go_wp2
   go_region
   all_goals
    go_wp2
    go_roundw
    case rel =>
     refine ⟨m + 1,by omega,by go_num,?_⟩
     first | exact (I.out.hit HE.out hlt (Nat.le_refl _) rfl).drew | exact I.out.drew.hit HE.out hlt (Nat.le_refl _) rfl
    case measure => simp [intOf]; omega
  ·have e:m = ps.length:=by omega
   subst e
   have hsz:=I.out.size
   obtain ⟨z1,z2,z3,z4⟩:=zac (zak (o:=.cells #[] 180) I.out.box)
   obtain ⟨t1,t2,t3,t4⟩:=zac (zak (o:=.cells #[] 180) I.out.res)
   have ho:(wr.alloc (.cells #[] 180)).ownsRow wr.heap.size 180 2 (.slice (some ⟨wr.heap.size,0,none⟩) 0 0) 0 []:=by
    simpa using World.ownsRow_lit (base:=wr.heap.size) (e:=180) (size:=2) wr #[] 0 (by simp) (by simp) rfl
   have HO:=zaa ho
   clear ho
   go_wp2
   have I2:=I.out
   refine bodyPost_ret (v:=.agg #[.slice aW2 ws.length cW2,.slice (some ⟨wr.heap.size,0,none⟩) 0 0]) (by simp [results,Tryz.results169,go_sem,t1,t2]) rfl ?_
   refine ⟨_,rfl,⟨_,_,rfl,⟨eZ,HE.out,?_⟩,?_⟩,(((I2.below.alloc (by omega) _).setCell (by simp only; omega) _).setCell (by simp only; omega) _).setCell (by simp only; omega) _⟩
   ·rw [zmi]
    have:=I2.words
    rw [List.take_length] at this
    refine ((this.alloc hsz (.cells #[] 180)).same fun b h1 h2 => ?_).wide (by omega) (by simp; omega)
    rw [Below.heap_setCell _ _ _ _ (by simp only; omega),Below.heap_setCell _ _ _ _ (by simp only; omega),Below.heap_setCell _ _ _ _ (by simp only; omega)]
   ·refine ((zad HO.out).same fun b h1 h2 => ?_).wide (by omega) (by simp)
    rw [Below.heap_setCell _ _ _ _ (by simp only; omega),Below.heap_setCell _ _ _ _ (by simp only; omega),Below.heap_setCell _ _ _ _ (by simp only; omega)]
def doW (m:Mi) (ws:List Int) (ps:List St):List Int:=if m.kind = 3 then zod ws ps else ws
def doP (m:Mi) (ps:List St):List St:=if m.kind = 1 then ps ++ [⟨m.at_,m.val,false⟩] else if m.kind = 2 then ps.map (fl1 m.at_) else if m.kind = 3 then zlx ps else ps
def doE (m:Mi) (es:List Int) (qs:List Se):List Int:=if m.kind = 5 then zxs es qs else es
def doQ (m:Mi) (qs:List Se):List Se:=if m.kind = 4 then qs ++ [⟨m.at_,m.val⟩] else if m.kind = 5 then [] else qs
theorem Rd.boxless {w w':World} {size:Nat} {v:Value} {n:Nat} {xs:List Value} {b:Nat} {cs:Array Value} {t:TypeId} {fr:Nat × Nat} (h:Rd w size v n xs) (h0:0 < n * size → ∃ z,xs[0]? = some (.int .i64 z)) (hb:w.heap[b]? = some (.cells cs t fr)) (hcs:∀ (o:Nat) (z:Int),¬ cs[o]? = some (.int .i64 z)) (hz:w.heap.size ≤ w'.heap.size) (ho:∀ j,j < w.heap.size → ¬ j = b → w'.heap[j]? = w.heap[j]?):Rd w' size v n xs:=by
 by_cases hn:0 < n * size
 ·refine h.same hz (fun j hj he => ho j hj (fun e => ?_))
  subst e
  obtain ⟨hl,ao,cap,rfl,_,hc⟩:=h
  have hn':0 < n:=by
   rcases Nat.eq_zero_or_pos n with e | e
   ·subst e; simp at hn
   ·exact e
  obtain ⟨b',o,rfl,_,hc⟩:=hc hn'
  simp only [Value.ownBlock,Option.some.injEq] at he
  subst he
  obtain ⟨z,e⟩:=h0 hn
  have:=hc 0 hn
  rw [e] at this
  simp only [World.cell?,hb] at this
  exact hcs o z (by simpa using this)
 ·obtain ⟨h3,ao,cap,rfl,h4,h5⟩:=h
  refine ⟨h3,ao,cap,rfl,h4,fun hp => ?_⟩
  obtain ⟨b',o,e,hlt,hc⟩:=h5 hp
  exact ⟨b',o,e,by omega,fun j hj => absurd (Nat.lt_of_le_of_lt (Nat.zero_le _) hj) hn⟩
theorem RdI.boxless {w w':World} {v:Value} {zs:List Int} {b:Nat} {cs:Array Value} {t:TypeId} {fr:Nat × Nat} (h:RdI w v zs) (hb:w.heap[b]? = some (.cells cs t fr)) (hcs:∀ (o:Nat) (z:Int),¬ cs[o]? = some (.int .i64 z)) (hz:w.heap.size ≤ w'.heap.size) (ho:∀ j,j < w.heap.size → ¬ j = b → w'.heap[j]? = w.heap[j]?):RdI w' v zs :=
 Rd.boxless h (fun hn => ⟨zs[0]'(by simpa using hn),zcu zs 0 (by simpa using hn)⟩) hb hcs hz ho
theorem RdPm.boxless {w w':World} {v:Value} {ws:List Int} {ps:List St} {b:Nat} {cs:Array Value} {t:TypeId} {fr:Nat × Nat} (h:RdPm w v ws ps) (hb:w.heap[b]? = some (.cells cs t fr)) (hcs:∀ (o:Nat) (z:Int),¬ cs[o]? = some (.int .i64 z)) (hz:w.heap.size ≤ w'.heap.size) (ho:∀ j,j < w.heap.size → ¬ j = b → w'.heap[j]? = w.heap[j]?):RdPm w' v ws ps:=by
 obtain ⟨vW,vP,rfl,h1,h2⟩:=h
 refine ⟨vW,vP,rfl,RdI.boxless h1 hb hcs hz ho,Rd.boxless h2 (fun hn => ?_) hb hcs hz ho⟩
 have hl:0 < ps.length:=by omega
 have:=zox ps 0 hl
 rw [Nat.zero_mul] at this
 exact ⟨_,this⟩
theorem RdBlk.boxless {w w':World} {v:Value} {ws:List Int} {ps:List Se} {b:Nat} {cs:Array Value} {t:TypeId} {fr:Nat × Nat} (h:RdBlk w v ws ps) (hb:w.heap[b]? = some (.cells cs t fr)) (hcs:∀ (o:Nat) (z:Int),¬ cs[o]? = some (.int .i64 z)) (hz:w.heap.size ≤ w'.heap.size) (ho:∀ j,j < w.heap.size → ¬ j = b → w'.heap[j]? = w.heap[j]?):RdBlk w' v ws ps:=by
 obtain ⟨vW,vP,rfl,h1,h2⟩:=h
 refine ⟨vW,vP,rfl,RdI.boxless h1 hb hcs hz ho,Rd.boxless h2 (fun hn => ?_) hb hcs hz ho⟩
 have hl:0 < ps.length:=by omega
 have:=zsj ps 0 hl
 rw [Nat.zero_mul] at this
 exact ⟨_,this⟩
theorem zdf {a b c d:Value} (ha:∀ z,¬ a = .int .i64 z) (hb:∀ z,¬ b = .int .i64 z) (hc:∀ z,¬ c = .int .i64 z) (hd:∀ z,¬ d = .int .i64 z):∀ (o:Nat) (z:Int),¬ (#[a,b,c,d]:Array Value)[o]? = some (.int .i64 z):=fun o z e => by
 match o with
 | 0 => simp at e; exact ha z e
 | 1 => simp at e; exact hb z e
 | 2 => simp at e; exact hc z e
 | 3 => simp at e; exact hd z e
 | o + 4 => simp at e
theorem zaf (a:Option Addr) (n c:Nat) (z:Int):¬ Value.slice a n c = .int .i64 z:=fun e => by cases e
def putD (w:World) (bD bR i j:Nat) (x y a b c d:Value):World:=(((((w.setCell ⟨bD,i,none⟩ x).setCell ⟨bD,j,none⟩ y).setCell ⟨bR,0,none⟩ a).setCell ⟨bR,1,none⟩ b).setCell ⟨bR,2,none⟩ c).setCell ⟨bR,3,none⟩ d
theorem zum (w:World) (bD bR i j:Nat) (x y a b c d:Value):(putD w bD bR i j x y a b c d).heap.size = w.heap.size:=by simp [putD,World.setCell]
theorem yaca (w:World) (bD bR i j:Nat) (x y a b c d:Value) (k:Nat) (h1:¬ k = bD) (h2:¬ k = bR):(putD w bD bR i j x y a b c d).heap[k]? = w.heap[k]?:=by
 unfold putD
 rw [Below.heap_setCell _ _ _ _ h2,Below.heap_setCell _ _ _ _ h2,Below.heap_setCell _ _ _ _ h2,Below.heap_setCell _ _ _ _ h2,Below.heap_setCell _ _ _ _ h1,Below.heap_setCell _ _ _ _ h1]
theorem Rd.put {w:World} {size:Nat} {v:Value} {n:Nat} {xs:List Value} {bD bR i j:Nat} {x y a b c d:Value} {cs cs':Array Value} {t t':TypeId} {fr fr':Nat × Nat} (h:Rd w size v n xs) (h0:0 < n * size → ∃ z,xs[0]? = some (.int .i64 z)) (hD:w.heap[bD]? = some (.cells cs t fr)) (hcs:∀ (o:Nat) (z:Int),¬ cs[o]? = some (.int .i64 z)) (hR:w.heap[bR]? = some (.cells cs' t' fr')) (hcs':∀ (o:Nat) (z:Int),¬ cs'[o]? = some (.int .i64 z)):Rd (putD w bD bR i j x y a b c d) size v n xs:=by
 by_cases e:v.ownBlock = some bD ∨ v.ownBlock = some bR
 ·obtain ⟨h3,ao,cap,rfl,h4,h5⟩:=h
  refine ⟨h3,ao,cap,rfl,h4,fun hp => ?_⟩
  obtain ⟨b',o,rfl,hlt,hc⟩:=h5 hp
  refine ⟨b',o,rfl,by rw [zum]; exact hlt,fun k hk => ?_⟩
  exfalso
  obtain ⟨z,ez⟩:=h0 (Nat.lt_of_le_of_lt (Nat.zero_le _) hk)
  have:=hc 0 (Nat.lt_of_le_of_lt (Nat.zero_le _) hk)
  rw [ez] at this
  simp only [Value.ownBlock,Option.some.injEq] at e
  rcases e with rfl | rfl
  ·simp only [World.cell?,hD] at this
   exact hcs o z (by simpa using this)
  ·simp only [World.cell?,hR] at this
   exact hcs' o z (by simpa using this)
 ·refine h.same (Nat.le_of_eq (zum ..).symm) (fun k _ he => yaca _ _ _ _ _ _ _ _ _ _ _ k (fun x => ?_) (fun x => ?_))
  ·subst x; exact e (.inl he)
  ·subst x; exact e (.inr he)
theorem RdI.put {w:World} {v:Value} {zs:List Int} {bD bR i j:Nat} {x y a b c d:Value} {cs cs':Array Value} {t t':TypeId} {fr fr':Nat × Nat} (h:RdI w v zs) (hD:w.heap[bD]? = some (.cells cs t fr)) (hcs:∀ (o:Nat) (z:Int),¬ cs[o]? = some (.int .i64 z)) (hR:w.heap[bR]? = some (.cells cs' t' fr')) (hcs':∀ (o:Nat) (z:Int),¬ cs'[o]? = some (.int .i64 z)):RdI (putD w bD bR i j x y a b c d) v zs :=
 Rd.put h (fun hn => ⟨zs[0]'(by simpa using hn),zcu zs 0 (by simpa using hn)⟩) hD hcs hR hcs'
theorem RdPm.put {w:World} {v:Value} {ws:List Int} {ps:List St} {bD bR i j:Nat} {x y a b c d:Value} {cs cs':Array Value} {t t':TypeId} {fr fr':Nat × Nat} (h:RdPm w v ws ps) (hD:w.heap[bD]? = some (.cells cs t fr)) (hcs:∀ (o:Nat) (z:Int),¬ cs[o]? = some (.int .i64 z)) (hR:w.heap[bR]? = some (.cells cs' t' fr')) (hcs':∀ (o:Nat) (z:Int),¬ cs'[o]? = some (.int .i64 z)):RdPm (putD w bD bR i j x y a b c d) v ws ps:=by
 obtain ⟨vW,vP,rfl,h1,h2⟩:=h
 refine ⟨vW,vP,rfl,RdI.put h1 hD hcs hR hcs',Rd.put h2 (fun hn => ?_) hD hcs hR hcs'⟩
 have:=zox ps 0 (by omega)
 rw [Nat.zero_mul] at this
 exact ⟨_,this⟩
theorem RdBlk.put {w:World} {v:Value} {ws:List Int} {ps:List Se} {bD bR i j:Nat} {x y a b c d:Value} {cs cs':Array Value} {t t':TypeId} {fr fr':Nat × Nat} (h:RdBlk w v ws ps) (hD:w.heap[bD]? = some (.cells cs t fr)) (hcs:∀ (o:Nat) (z:Int),¬ cs[o]? = some (.int .i64 z)) (hR:w.heap[bR]? = some (.cells cs' t' fr')) (hcs':∀ (o:Nat) (z:Int),¬ cs'[o]? = some (.int .i64 z)):RdBlk (putD w bD bR i j x y a b c d) v ws ps:=by
 obtain ⟨vW,vP,rfl,h1,h2⟩:=h
 refine ⟨vW,vP,rfl,RdI.put h1 hD hcs hR hcs',Rd.put h2 (fun hn => ?_) hD hcs hR hcs'⟩
 have:=zsj ps 0 (by omega)
 rw [Nat.zero_mul] at this
 exact ⟨_,this⟩
theorem zgc {B:Nat} {a0 w:World} (h:Below B a0 w) {bD bR:Nat} (h1:B ≤ bD) (h2:B ≤ bR) (i j:Nat) (x y a b c d:Value):Below B a0 (putD w bD bR i j x y a b c d):=by
 unfold putD
 repeat (refine Below.setCell ?_ (by simp only; omega) _)
 exact h
end Go.Proofs.YtkdjfhkalelafaaGreatDoor
