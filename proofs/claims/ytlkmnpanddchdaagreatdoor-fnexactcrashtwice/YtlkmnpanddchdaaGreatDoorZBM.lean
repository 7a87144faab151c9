/- Several texts laid together: CrashIE, LastW, BlkUnsI, BlkCrI. -/
import Derived.Test.YtlkmnpanddchdaaGreatDoorZBC
import Derived.Test.YtlkmnpanddchdaaGreatDoorZAG
import Derived.Test.YtlkmnpanddchdaaGreatDoorZBB
import Derived.Deep.RegionWith
import Derived.Test.YtlkmnpanddchdaaGreatDoorZBI
namespace Go.Proofs.YtlkmnpanddchdaaGreatDoor
open Go.RowKit
def zde (ws:List Int) (ps:List Se) (zs:List Int):Int:=if 4096 < zs.length then 2 else if zbp ws ps = true then if zaw zs = true then 0 else 4 else 1
def zfz (ws:List Int) (ps:List Se) (zs:List Int):List Int:=if zde ws ps zs = 0 then spE (zar ps 32) zs ps ws (zar ps 32).length else []
theorem zzb (ws:List Int) (ps:List Se) (zs:List Int) :
  (4096 < zs.length ∧ zde ws ps zs = 2 ∧ zfz ws ps zs = []) ∨
  (¬ 4096 < zs.length ∧ zbp ws ps = false ∧ zde ws ps zs = 1 ∧ zfz ws ps zs = []) ∨
  (¬ 4096 < zs.length ∧ zbp ws ps = true ∧ zaw zs = false ∧ zde ws ps zs = 4 ∧ zfz ws ps zs = []) ∨
  (¬ 4096 < zs.length ∧ zbp ws ps = true ∧ zaw zs = true ∧ zde ws ps zs = 0 ∧ zfz ws ps zs = spE (zar ps 32) zs ps ws (zar ps 32).length):=by
 by_cases c1:4096 < zs.length
 ·have e:zde ws ps zs = 2:=by unfold zde; rw [if_pos c1]
  exact .inl ⟨c1,e,by unfold zfz; rw [e]; rfl⟩
 ·by_cases c2:zbp ws ps = true
  ·by_cases c3:zaw zs = true
   ·have e:zde ws ps zs = 0:=by unfold zde; rw [if_neg c1,if_pos c2,if_pos c3]
    exact .inr (.inr (.inr ⟨c1,c2,c3,e,by unfold zfz; rw [if_pos e]⟩))
   ·have e:zde ws ps zs = 4:=by unfold zde; rw [if_neg c1,if_pos c2,if_neg c3]
    exact .inr (.inr (.inl ⟨c1,c2,by simpa using c3,e,by unfold zfz; rw [e]; rfl⟩))
  ·have e:zde ws ps zs = 1:=by unfold zde; rw [if_neg c1,if_neg c2]
   exact .inr (.inl ⟨c1,by simpa using c2,e,by unfold zfz; rw [e]; rfl⟩)
def NW (w:World):Prop:=∃ t fr,w.heap[0]? = some (.cells #[.int .i64 (-1),.int .i64 0] t fr)
theorem NW.lt {w:World} (h:NW w):0 < w.heap.size:=by
 obtain ⟨t,fr,h⟩:=h
 exact (Array.getElem?_eq_some_iff.1 h).1
theorem NW.later {w w':World} {B:Nat} (h:NW w) (hB:0 < B) (hb:Below B w w'):NW w':=by
 obtain ⟨t,fr,h⟩:=h
 exact ⟨t,fr,(hb.block 0 hB).trans h⟩
theorem NW.below {w w':World} (h:NW w) (hb:Below w.heap.size w w'):NW w':=h.later h.lt hb
theorem NW.cells {w:World} (h:NW w):w.cell? ⟨0,0,none⟩ = some (.int .i64 (-1)) ∧ w.cell? ⟨0,1,none⟩ = some (.int .i64 0):=by
 obtain ⟨t,fr,h⟩:=h
 simp [World.cell?,h]
def zeh (at_:Int) (acc:Se × Int) (p:Se):Se × Int:=if p.at_ = at_ ∧ 0 < acc.2 then (p,acc.2 - 1) else acc
def lwR (at_ most:Int) (ps:List Se):Se × Int:=ps.foldl (zeh at_) (⟨-1,0⟩,most)
def znr (at_ most:Int) (ps:List Se):Se:=(lwR at_ most ps).1
theorem yaeg (at_ most:Int) (ps:List Se) (p:Se):lwR at_ most (ps ++ [p]) = zeh at_ (lwR at_ most ps) p:=by simp [lwR]
theorem yasw {at_ most:Int} {ps:List Se} {m:Nat} (hm:m < ps.length) (h:ps[m].at_ = at_) (h0:0 < (lwR at_ most (ps.take m)).2):lwR at_ most (ps.take (m + 1)) = (ps[m],(lwR at_ most (ps.take m)).2 - 1):=by
 rw [zbb ps m hm,yaeg]
 unfold zeh
 rw [if_pos ⟨h,h0⟩]
theorem yaef {at_ most:Int} {ps:List Se} {m:Nat} (hm:m < ps.length) (h:¬ (ps[m].at_ = at_ ∧ 0 < (lwR at_ most (ps.take m)).2)):lwR at_ most (ps.take (m + 1)) = lwR at_ most (ps.take m):=by
 rw [zbb ps m hm,yaeg]
 unfold zeh
 rw [if_neg h]
structure LwInv (w wr:World) (s:Se):Prop where
 last:wr.heap[w.heap.size + 1]? = some (.cells #[.int .i64 s.at_,.int .i64 s.val] 156 (0,0))
 res:wr.heap[w.heap.size]? = some (.cells #[.int .i64 0,.int .i64 0] 156 (0,0))
 below:Below w.heap.size w wr
theorem LwInv.alloc {w wr:World} {s:Se} (h:LwInv w wr s) (o:Obj):LwInv w (wr.alloc o) s :=
 ⟨zal h.last,zal h.res,h.below.alloc h.below.size o⟩
theorem LwInv.set {w wr:World} {s:Se} (h:LwInv w wr s) (p:Se):LwInv w ((wr.setCell ⟨w.heap.size + 1,0,none⟩ (.int .i64 p.at_)).setCell ⟨w.heap.size + 1,1,none⟩ (.int .i64 p.val)) p :=
 ⟨zgc (zeo h.last _) _,by rw [Below.heap_setCell _ _ _ _ (by simp only; omega),Below.heap_setCell _ _ _ _ (by simp only; omega)]; exact h.res,(h.below.setCell (by simp only; omega) _).setCell (by simp only; omega) _⟩
set_option maxHeartbeats 4000000 in
theorem zfk (v:Value) (ps:List Se) (at_ most:Int) (w:World) (h:RdE w v ps) (hG:NW w) (hp:ps.length ≤ 1048576) (h0:0 ≤ most) (h1:most ≤ 400) :
  Calls Tryz.prog 127 #[v,.int .i64 at_,.int .i64 most] w fun e w' => e = .returned (.agg #[.int .i64 (znr at_ most ps).at_,.int .i64 (znr at_ most ps).val]) ∧ Below w.heap.size w w':=by
 obtain ⟨aP,cP,rfl,_,hcP⟩:=h.shape
 have HP:=zaa hcP
 have hw0:=hG.lt
 have hb0:Below w.heap.size w (w.alloc (.cells #[.int .i64 0,.int .i64 0] 156)):=(Below.refl _ _).alloc (Nat.le_refl _) _
 obtain ⟨g0,g1⟩:=(hG.below hb0).cells
 have INV:Hid (LwInv w ((w.alloc (.cells #[.int .i64 0,.int .i64 0] 156)).alloc (.cells #[.int .i64 (-1),.int .i64 0] 156)) (lwR at_ most (ps.take 0)).1) :=
  ⟨zag (by simp),zal (zag rfl),hb0.alloc (by simp) _⟩
 clear h hcP hb0
 go_enter Tryz.func127,Tryz.ntmps127
 go_wp2
 go_loopw [2,9,13] (fun mo _ i wr => ∃ m:Nat,m ≤ ps.length ∧ i = .int .i64 m ∧ mo = .int .i64 (lwR at_ most (ps.take m)).2 ∧ (0 ≤ (lwR at_ most (ps.take m)).2 ∧ (lwR at_ most (ps.take m)).2 ≤ most) ∧ Hid (LwInv w wr (lwR at_ most (ps.take m)).1)) (fun _ _ i _ => ps.length - (intOf i).toNat)
 case atStart => exact ⟨0,by omega,rfl,rfl,⟨h0,Int.le_refl _⟩,INV⟩
 case round =>
  obtain ⟨m,hm,rfl,rfl,⟨hm0,hm1⟩,I⟩:=hrel
  by_cases hlt:m < ps.length
  ·obtain ⟨b,o,rfl,hbl,hcell⟩:=HP.out (by omega)
   obtain ⟨c0,c1⟩:=hcell m hlt
   have d0:=(I.out.below.cell (p:=⟨b,o + m * 2,none⟩) hbl).trans c0
   have d1:=(I.out.below.cell (p:=⟨b,o + m * 2 + 1,none⟩) hbl).trans c1
   have hzr:w.heap.size + 2 ≤ wr.heap.size:=(Array.getElem?_eq_some_iff.1 I.out.last).1
   obtain ⟨y0,y1,y2,y3⟩:=zad (zal (o:=.cells #[.int .i64 ps[m].at_,.int .i64 ps[m].val] 156) I.out.last)
   clear hcell c0 c1
   by_cases q:ps[m].at_ = at_
   ·have q':(ps[m].at_ == at_) = true:=by simpa using q
    by_cases q2:0 < (lwR at_ most (ps.take m)).2
    ·have E:=zaa (yasw hlt q q2)
     have I1:=zaa ((I.out.alloc (.cells #[.int .i64 ps[m].at_,.int .i64 ps[m].val] 156)).set ps[m])
     have I2:=zaa ((I.out.set ps[m]).alloc (.cells #[.int .i64 ps[m].at_,.int .i64 ps[m].val] 156))
     generalize (lwR at_ most (ps.take m)).2 = mo at *
     clear q
     go_wp2
     go_roundw
     case rel =>
      refine ⟨m + 1,by omega,by go_num,?_,?_,?_⟩
      ·rw [E.out]
      ·rw [E.out]; exact ⟨by show 0 ≤ mo - 1; omega,by show mo - 1 ≤ most; omega⟩
      ·rw [E.out]
       first | exact I1 | exact I2
     case measure => simp [intOf]; omega
    ·have E:=zaa (yaef hlt (fun c => q2 c.2))
     have I1:=zaa (I.out.alloc (.cells #[.int .i64 ps[m].at_,.int .i64 ps[m].val] 156))
     have e0:(lwR at_ most (ps.take m)).2 = 0:=by omega
     have E0:=zaa e0
     rw [e0]
     clear e0 q q2
     go_wp2
     go_roundw
     case rel =>
      refine ⟨m + 1,by omega,by go_num,?_,?_,?_⟩
      ·rw [E.out,E0.out]
      ·rw [E.out]; exact ⟨hm0,hm1⟩
      ·rw [E.out]; exact I1
     case measure => simp [intOf]; omega
   ·have q':(ps[m].at_ == at_) = false:=by simpa using q
    have E:=zaa (yaef (most:=most) hlt (fun c => q c.1))
    have I1:=zaa (I.out.alloc (.cells #[.int .i64 ps[m].at_,.int .i64 ps[m].val] 156))
    clear q
    go_wp2
    go_roundw
    case rel =>
     refine ⟨m + 1,by omega,by go_num,?_,?_,?_⟩
     ·rw [E.out]
     ·rw [E.out]; exact ⟨hm0,hm1⟩
     ·rw [E.out]; exact I1
    case measure => simp [intOf]; omega
  ·have e:m = ps.length:=by omega
   subst e
   rw [List.take_length] at I
   obtain ⟨y0,y1,y2,y3⟩:=zad I.out.last
   obtain ⟨t0,t1,t2,t3⟩:=zad I.out.res
   go_wp2
   refine bodyPost_ret (v:=.agg #[.int .i64 (lwR at_ most ps).1.at_,.int .i64 (lwR at_ most ps).1.val]) (by simp [results,Tryz.results127,go_sem,t0,t1]) rfl ?_
   exact ⟨rfl,(I.out.below.setCell (by simp only; omega) _).setCell (by simp only; omega) _⟩
theorem zhv (a:Int):∀ (ps:List Se) (s:Se) (mo:Int),s.at_ = a → (ps.foldl (zeh a) (s,mo)).1.at_ = a
 | [],_,_,h => h
 | p :: ps,s,mo,h => by
  rw [List.foldl_cons]
  by_cases c:p.at_ = a ∧ 0 < mo
  ·rw [show zeh a (s,mo) p = (p,mo - 1) from if_pos c]
   exact zhv a ps p (mo - 1) c.1
  ·rw [show zeh a (s,mo) p = (s,mo) from if_neg c]
   exact zhv a ps s mo h
theorem zsd (a:Int):∀ (ps:List Se) (s:Se) (mo:Int),0 < mo → ((∀ p ∈ ps,¬ p.at_ = a) ∧ ps.foldl (zeh a) (s,mo) = (s,mo)) ∨ (ps.foldl (zeh a) (s,mo)).1.at_ = a
 | [],_,_,_ => .inl ⟨by simp,rfl⟩
 | p :: ps,s,mo,h => by
  rw [List.foldl_cons]
  by_cases c:p.at_ = a
  ·rw [show zeh a (s,mo) p = (p,mo - 1) from if_pos ⟨c,h⟩]
   exact .inr (zhv a ps p (mo - 1) c)
  ·rw [show zeh a (s,mo) p = (s,mo) from if_neg (fun x => c x.1)]
   rcases zsd a ps s mo h with ⟨h1,h2⟩ | h1
   ·refine .inl ⟨fun q hq => ?_,h2⟩
    rcases List.mem_cons.1 hq with rfl | hq
    ·exact c
    ·exact h1 q hq
   ·exact .inr h1
theorem zov {ps:List Se} {m:Nat} {mo:Int} (h0:0 < mo) (h:zud ps m = true):(znr (m:Int) mo ps).at_ = (m:Int):=by
 rcases zsd (m:Int) ps ⟨-1,0⟩ mo h0 with ⟨h1,_⟩ | h1
 ·unfold zud at h
  rw [List.any_eq_true] at h
  obtain ⟨p,hp,e⟩:=h
  exact absurd (by simpa using e) (h1 p hp)
 ·exact h1
theorem yahb {ps:List Se} {m:Nat} {mo:Int} (h:zud ps m = false):znr (m:Int) mo ps = ⟨-1,0⟩:=by
 have hn:∀ p ∈ ps,¬ p.at_ = (m:Int):=by
  unfold zud at h
  rw [List.any_eq_false] at h
  intro p hp
  simpa using h p hp
 unfold znr lwR
 clear h
 generalize (⟨-1,0⟩:Se) = s
 induction ps with
 | nil => rfl
 | cons p ps ih =>
  rw [List.foldl_cons,show zeh (m:Int) (s,mo) p = (s,mo) from if_neg (fun x => hn p (by simp) x.1)]
  exact ih (fun q hq => hn q (by simp [hq]))
set_option maxRecDepth 100000 in
set_option maxHeartbeats 4000000 in
theorem zei (v:Value) (ws:List Int) (ps:List Se) (w:World) (h:RdBlk w v ws ps) (hG:NW w) (hw:ws.length ≤ 1048576) (hp:ps.length ≤ 1048576) :
  Calls Tryz.prog 126 #[v] w fun e w' => ∃ v',e = .returned (.tuple #[v',.int .i64 (barC ws ps)]) ∧ Row w' 3 1 w.heap.size w'.heap.size v' (yahg ws ps).length (zav (yahg ws ps)) ∧ Below w.heap.size w w':=by
 have HR:=zaa h
 have HG:=zaa hG
 obtain ⟨vW,vP,rfl,h1,h2⟩:=h
 have H2:=zaa h2
 obtain ⟨aW,cW,rfl,_⟩:=h1.shape
 obtain ⟨aP,cP,rfl,_⟩:=h2.shape
 clear h1 h2 hG
 have hb0:Below w.heap.size w (w.alloc (.cells #[.slice aW ws.length cW,.slice aP ps.length cP] 43)):=(Below.refl _ _).alloc (Nat.le_refl _) _
 by_cases hc:zbp ws ps = true
 ·obtain ⟨e1,e2⟩:=yaal hc
  rw [e1,e2]
  have C:=zaa hc
  clear e1 e2 hc
  go_enter Tryz.func126,Tryz.ntmps126
  go_wp2_with fail
  refine (zbu _ ws ps _ (HR.out.below hb0) hw hp).mono ?_
  rw [C.out]
  rintro e w1 ⟨rfl,hb1⟩
  have hz1:w.heap.size + 1 ≤ w1.heap.size:=by have:=hb1.size; simp at this; omega
  have V0:=zaa ((hb1.block w.heap.size (by simp <;> omega)).trans (zag rfl))
  have B1:=zaa (zab hb0 hb1 (by simp <;> omega))
  clear hb0 hb1
  go_wp2
  go_loopw [4,5,9] (fun vL _ i wr => ∃ m:Nat,m ≤ 32 ∧ i = .int .i64 m ∧ Hid (wr.ownsRow w1.heap.size 3 1 vL (zcr ps m).length (zav (zcr ps m)) ∧ wr.heap[w.heap.size]? = some (.cells #[.slice aW ws.length cW,.slice aP ps.length cP] 43 (0,0)) ∧ Below w.heap.size w wr) ∧ w1.heap.size ≤ wr.heap.size) (fun _ _ i _ => 32 - (intOf i).toNat)
  case atStart => exact ⟨0,by omega,rfl,⟨by simpa [zcr,zar,zav] using World.ownsRow_nil w1 w1.heap.size 3 1,V0.out,B1.out⟩,Nat.le_refl _⟩
  case round =>
   obtain ⟨m,hm,rfl,I,hz⟩:=hrel
   by_cases hlt:m < 32
   ·obtain ⟨y1,y2,y3,y4⟩:=zad I.out.2.1
    obtain ⟨g0,g1⟩:=(HG.out.below I.out.2.2).cells
    have hle:=zob ps m
    by_cases hh:zud ps m = true
    ·have E:=zaa (zyx hh)
     have LH:=zaa (zov (mo:=1) (by decide) hh)
     have mn:((m:Int) == -1) = false:=by first | (simp; done) | (simp; omega)
     clear hh
     go_wp2_with fail
     go_region_with (go_at_call 127; refine (zfk _ ps _ _ _ (by first | exact Rd.below H2.out I.out.2.2.drew | exact Rd.below H2.out I.out.2.2) (by first | exact HG.out.below I.out.2.2.drew | exact HG.out.below I.out.2.2) hp (by omega) (by omega)).mono ?_; rw [LH.out]; rintro e wa ⟨rfl,hba⟩; have BA:Hid (Below wr.heap.size wr wa):=(by first | exact zab ((Below.refl _ _).drew) hba (Nat.le_refl _) | exact hba); obtain ⟨k0,k1⟩:=((HG.out.below I.out.2.2).below BA.out).cells; generalize (znr (m:Int) 1 ps).val = yy at *; clear hba)
     all_goals
      have hza:=BA.out.size
      have O1:=((zai I.out.1).below BA.out (Nat.le_refl _)).wide (Nat.le_refl _) hza
      have O2:=zaa (O1.1.alloc (.cells #[.int .i64 (m:Int)] 3))
      have V2:=zaa ((BA.out.block w.heap.size (by omega)).trans I.out.2.1)
      have B2:=zaa (zab I.out.2.2 BA.out (by omega))
      have HRD:=zaa (znh wa (m:Int))
      have HRE:=zaa (znh wa.drew (m:Int))
      have O3:Hid ((wa.drew.alloc (.cells #[.int .i64 (m:Int)] 3)).ownsRow w1.heap.size 3 1 _ _ _):=(((O1.same (fun _ _ _ => rfl):Row wa.drew _ _ _ _ _ _ _)).1.alloc (.cells #[.int .i64 (m:Int)] 3))
      clear O1
      first
       | (go_wp2_with (at_builtin; refine zak _ rfl (.tmp 18) (.tmp 20) 22 rfl w1.heap.size 3 (.int .i64 0) 1 8 Tryz.underlying22 zga rfl (by decide) _ _ _ rfl O2.out _ 1 _ rfl HRD.out (by simp [Value.oneCell']) (by simp [maxLen]; omega) (by omega) (by simp; omega) ?_))
       | (go_wp2_with (at_builtin; refine zak _ rfl (.tmp 18) (.tmp 20) 22 rfl w1.heap.size 3 (.int .i64 0) 1 8 Tryz.underlying22 zga rfl (by decide) _ _ _ rfl O3.out _ 1 _ rfl HRE.out (by simp [Value.oneCell']) (by simp [maxLen]; omega) (by omega) (by simp; omega) ?_))
      intro vN wN hownN hgrN
      have hl:=fun k hk => (O2.out.lt k hk).1
      have hzN:=hgrN.size
      simp only [World.size_alloc] at hzN
      have G:Hid (wN.ownsRow w1.heap.size 3 1 vN (zcr ps (m + 1)).length (zav (zcr ps (m + 1))) ∧ wN.heap[w.heap.size]? = some (.cells #[.slice aW ws.length cW,.slice aP ps.length cP] 43 (0,0)) ∧ Below w.heap.size w wN):=by
       refine ⟨?_,(hgrN.block w.heap.size (by simp; omega) (fun e => by have:=hl _ e.symm; omega)).trans (zal V2.out),?_⟩
       ·rw [E.out,zhr,List.length_append]
        exact hownN
       ·first
         | exact (B2.out.alloc (by omega) (.cells #[.int .i64 (m:Int)] 3)).grown hgrN (by simp; omega) (fun k hk => by have:=hl k hk; omega)
         | exact (B2.out.drew.alloc (by simp; omega) (.cells #[.int .i64 (m:Int)] 3)).grown hgrN (by simp; omega) (fun k hk => by have:=hl k hk; omega)
      clear hownN hgrN hl
      go_wp2
      go_roundw
      case rel => exact ⟨m + 1,by omega,by go_num,G,by first | omega | (simp at hzN; omega)⟩
      case measure => simp [intOf]; omega
    ·have hh':zud ps m = false:=by simpa using hh
     have E:=zaa (zsp hh')
     have LH:=zaa (yahb (mo:=1) hh')
     clear hh hh'
     go_wp2_with fail
     go_region_with (go_at_call 127; refine (zfk _ ps _ _ _ (by first | exact Rd.below H2.out I.out.2.2.drew | exact Rd.below H2.out I.out.2.2) (by first | exact HG.out.below I.out.2.2.drew | exact HG.out.below I.out.2.2) hp (by omega) (by omega)).mono ?_; rw [LH.out]; rintro e wa ⟨rfl,hba⟩; have BA:Hid (Below wr.heap.size wr wa):=(by first | exact zab ((Below.refl _ _).drew) hba (Nat.le_refl _) | exact hba); obtain ⟨k0,k1⟩:=((HG.out.below I.out.2.2).below BA.out).cells; clear hba)
     all_goals
      have hza:=BA.out.size
      have G:Hid (wa.ownsRow w1.heap.size 3 1 u4 (zcr ps (m + 1)).length (zav (zcr ps (m + 1))) ∧ wa.heap[w.heap.size]? = some (.cells #[.slice aW ws.length cW,.slice aP ps.length cP] 43 (0,0)) ∧ Below w.heap.size w wa):=by
       rw [E.out]
       exact ⟨((zai I.out.1).below BA.out (Nat.le_refl _)).1,(BA.out.block w.heap.size (by omega)).trans I.out.2.1,zab I.out.2.2 BA.out (by omega)⟩
      go_wp2
      go_roundw
      case rel => exact ⟨m + 1,by omega,by go_num,by first | exact G | exact ⟨(((zai G.out.1).same (fun _ _ _ => rfl):Row wa.drew _ _ _ _ _ _ _)).1,G.out.2.1,G.out.2.2.drew⟩,by omega⟩
      case measure => simp [intOf]; omega
   ·have e:m = 32:=by omega
    subst e
    obtain ⟨aL,cL,hvL⟩:=RdI.form (zai I.out.1).rd rfl
    subst hvL
    go_wp2
    go_ret2
    exact ⟨_,rfl,(zai I.out.1).wide (by omega) (Nat.le_refl _),I.out.2.2⟩
 ·have hc':zbp ws ps = false:=by simpa using hc
  clear hc
  obtain ⟨e1,e2⟩:=yaee hc'
  rw [e1,e2]
  have C:=zaa hc'
  clear e1 e2 hc'
  go_enter Tryz.func126,Tryz.ntmps126
  go_wp2_with fail
  refine (zbu _ ws ps _ (HR.out.below hb0) hw hp).mono ?_
  rw [C.out]
  rintro e w1 ⟨rfl,hb1⟩
  have B1:=zaa (zab hb0 hb1 (by simp <;> omega))
  clear hb0 hb1
  go_wp2
  go_ret2
  exact ⟨_,rfl,Row.nil _ _ _ _ _,B1.out⟩
theorem zat {a w:World} (h:Below a.heap.size a w) (o:Obj):Below a.heap.size a (w.alloc o):=h.alloc h.size o
theorem yaav (a:Nat):∀ (ps:List Se) (s:Se) (d mo:Int),(ps.foldl (zeh (a:Int)) (s,mo) = (s,mo) ∧ zea a (d,mo) ps = (d,mo)) ∨ ((ps.foldl (zeh (a:Int)) (s,mo)).1.at_ = (a:Int) ∧ (zea a (d,mo) ps).1 = (ps.foldl (zeh (a:Int)) (s,mo)).1.val)
 | [],_,_,_ => .inl ⟨rfl,rfl⟩
 | p :: ps,s,d,mo => by
  have e2:zea a (d,mo) (p :: ps) = zea a (zeg a (d,mo) p) ps:=rfl
  rw [List.foldl_cons,e2]
  by_cases c:p.at_ = (a:Int) ∧ 0 < mo
  ·rw [show zeh (a:Int) (s,mo) p = (p,mo - 1) from if_pos c,show zeg a (d,mo) p = (p.val,mo - 1) from if_pos c]
   rcases yaav a ps p p.val (mo - 1) with ⟨h1,h2⟩ | h
   ·exact .inr ⟨by rw [h1]; exact c.1,by rw [h1,h2]⟩
   ·exact .inr h
  ·rw [show zeh (a:Int) (s,mo) p = (s,mo) from if_neg c,show zeg a (d,mo) p = (d,mo) from if_neg c]
   exact yaav a ps s d mo
theorem yagw {ps:List Se} {a:Nat} {d mo:Int} (h0:0 < mo) (h:zud ps a = true):(zea a (d,mo) ps).1 = (znr (a:Int) mo ps).val:=by
 rcases yaav a ps ⟨-1,0⟩ d mo with ⟨h1,_⟩ | ⟨_,h2⟩
 ·have:=zov h0 h
  unfold znr lwR at this
  rw [h1] at this
  exact absurd (show (-1:Int) = (a:Int) from this) (by omega)
 ·exact h2
theorem yagg {ps:List Se} {a mo:Int} (h:¬ 0 < mo):znr a mo ps = ⟨-1,0⟩:=by
 unfold znr lwR
 generalize (⟨-1,0⟩:Se) = s
 induction ps with
 | nil => rfl
 | cons p ps ih =>
  rw [List.foldl_cons,show zeh a (s,mo) p = (s,mo) from if_neg (fun x => h x.2)]
  exact ih
theorem yajs (ps:List Se) (n i:Nat) (hi:i < (zar ps n).length):zud ps ((zar ps n)[i]?.getD 0) = true:=by
 rw [List.getElem?_eq_getElem hi,Option.getD_some]
 have:=List.getElem_mem hi
 unfold zar at this
 rw [List.mem_filter] at this
 exact this.2
theorem yash {us:List Nat} {zs:List Int} {ps:List Se} {ws:List Int} {i:Nat} (h0:0 < zck zs i) (h:zud ps (us[i]?.getD 0) = true):spE us zs ps ws (i + 1) = (spE us zs ps ws i).set (us[i]?.getD 0) (znr ((us[i]?.getD 0:Nat):Int) (zck zs i) ps).val:=by
 rw [spE,yagw h0 h]
theorem yani {us:List Nat} {zs:List Int} {ps:List Se} {ws:List Int} {i:Nat} (h0:¬ 0 < zck zs i) (h:us[i]?.getD 0 < ws.length):spE us zs ps ws (i + 1) = spE us zs ps ws i:=by
 have hl:us[i]?.getD 0 < (spE us zs ps ws i).length:=by rw [zim]; exact h
 rw [spE,zmn h0]
 simp [hl]
structure CrB (w w1 wr:World) (X:List Int) (us:List Int) (vW vP vU:Value):Prop where
 arr:Row wr 162 1 w1.heap.size (w1.heap.size + 1) (.slice (some ⟨w1.heap.size,0,none⟩) 32 32) 32 (zav X)
 plc:Row wr 3 1 (w.heap.size + 2) w1.heap.size vU us.length (zav us)
 box:wr.heap[w.heap.size]? = some (.cells #[vW,vP] 43 (0,0))
 res:wr.heap[w.heap.size + 1]? = some (.cells #[.slice none 0 0,.slice none 0 0] 43 (0,0))
 below:Below w.heap.size w wr
 size:w1.heap.size + 1 ≤ wr.heap.size
theorem CrB.later {w w1 wr wx:World} {X us:List Int} {vW vP vU:Value} (h:CrB w w1 wr X us vW vP vU) (hb:Below wr.heap.size wr wx) (hz:w.heap.size + 2 ≤ w1.heap.size):CrB w w1 wx X us vW vP vU :=
 have h7:=h.size
 ⟨h.arr.below hb h7,h.plc.below hb (by omega),(hb.block _ (by omega)).trans h.box,(hb.block _ (by omega)).trans h.res,zab h.below hb h.below.size,Nat.le_trans h.size hb.size⟩
theorem CrB.store {w w1 wr:World} {X us:List Int} {vW vP vU:Value} (h:CrB w w1 wr X us vW vP vU) (hz:w.heap.size + 2 ≤ w1.heap.size) (a:Nat) (x:Int):CrB w w1 (wr.setCell ⟨w1.heap.size,a,none⟩ (.int .i64 x)) (X.set a x) us vW vP vU:=by
 obtain ⟨h1,h2,h3,h4,h5,h6⟩:=h
 refine ⟨?_,h2.same (fun k _ hk => Below.heap_setCell _ _ _ _ (by simp only; omega)),?_,?_,h5.setCell (by simp only; omega) _,by simpa using h6⟩
 ·rw [← zem]; exact h1.stored _ _
 ·rw [Below.heap_setCell _ _ _ _ (by simp only; omega)]; exact h3
 ·rw [Below.heap_setCell _ _ _ _ (by simp only; omega)]; exact h4
structure LCut (wr wx:World) (x y:Int) (bx:Nat):Prop where
 lo:wr.heap.size ≤ bx
 box:wx.heap[bx]? = some (.cells #[.int .i64 x,.int .i64 y] 156 (0,0))
 below:Below wr.heap.size wr wx
theorem LCut.new {wr wf:World} {x y:Int} (hb:Below wr.heap.size wr wf):LCut wr (wf.alloc (.cells #[.int .i64 x,.int .i64 y] 156)) x y wf.heap.size:=⟨hb.size,zag rfl,zat hb _⟩
theorem LCut.old {wr wf:World} {x y:Int} {bx:Nat} (hb:Below wr.heap.size wr wf) (hx:wr.heap.size ≤ bx) (hv:wf.heap[bx]? = some (.cells #[.int .i64 0,.int .i64 0] 156 (0,0))):LCut wr ((wf.setCell ⟨bx,0,none⟩ (.int .i64 x)).setCell ⟨bx,1,none⟩ (.int .i64 y)) x y bx :=
 ⟨hx,zgc (zeo hv _) _,(hb.setCell (by simp only; omega) _).setCell (by simp only; omega) _⟩
set_option maxRecDepth 100000 in
set_option maxHeartbeats 8000000 in
theorem znm (v vZ:Value) (ws:List Int) (ps:List Se) (zs:List Int) (w:World) (h:RdBlk w v ws ps) (hz:RdI w vZ zs) (hG:NW w) (hw:ws.length ≤ 1048576) (hp:ps.length ≤ 1048576) (hzl:zs.length ≤ 1048576) :
  Calls Tryz.prog 82 #[v,vZ] w fun e w' => ∃ v',e = .returned (.tuple #[v',.int .i64 (zde ws ps zs)]) ∧ RowBlk w' w.heap.size w'.heap.size v' (zfz ws ps zs) [] ∧ Below w.heap.size w w':=by
 have HR:=zaa h
 have HZ:=zaa hz
 have HG:=zaa hG
 obtain ⟨vW,vP,rfl,h1,h2⟩:=h
 have H2:=zaa h2
 obtain ⟨aW,cW,rfl,_,hcW⟩:=h1.shape
 obtain ⟨aP,cP,rfl,_⟩:=h2.shape
 obtain ⟨aZ,cZ,rfl,_⟩:=hz.shape
 have HW:=zaa hcW
 clear h1 h2 hz hcW hG
 have hb0:Below w.heap.size w ((w.alloc (.cells #[.slice aW ws.length cW,.slice aP ps.length cP] 43)).alloc (.cells #[.slice none 0 0,.slice none 0 0] 43)):=by
  repeat (refine Below.alloc ?_ (by simp <;> omega) _)
  exact Below.refl _ _
 rcases zzb ws ps zs with ⟨c1,e1,e2⟩ | ⟨c1,c2,e1,e2⟩ | ⟨c1,c2,c3,e1,e2⟩ | ⟨c1,c2,c3,e1,e2⟩
 ·rw [e1,e2]
  clear e1 e2
  go_enter Tryz.func82,Tryz.ntmps82
  go_wp2
  refine bodyPost_ret (v:=.tuple #[.agg #[.slice none 0 0,.slice none 0 0],.int .i64 2]) (by simp [results,Tryz.results82,go_sem]) rfl ?_
  exact ⟨_,rfl,RowBlk.zero _ _ _,hb0⟩
 ·rw [e1,e2]
  obtain ⟨s1,s2⟩:=yaee c2
  have S1:=zaa s1
  clear e1 e2 s1 s2
  go_enter Tryz.func82,Tryz.ntmps82
  go_wp2_with fail
  refine (zei _ ws ps _ (HR.out.below hb0) (HG.out.below hb0) hw hp).mono ?_
  rw [S1.out]
  rintro e w1 ⟨v1,rfl,hr1,hb1⟩
  obtain ⟨aU,cU,rfl⟩:=RdI.form hr1.rd rfl
  have V1:=(hb1.block (w.heap.size + 1) (by simp)).trans (zag (by simp))
  obtain ⟨t1,t2,t3,t4⟩:=zad V1
  have B1:=zaa (zab hb0 hb1 (by simp <;> omega))
  clear hb0 hb1 V1 hr1
  go_wp2
  refine bodyPost_ret (v:=.tuple #[.agg #[.slice none 0 0,.slice none 0 0],.int .i64 1]) (by simp [results,Tryz.results82,go_sem,t1,t2]) rfl ?_
  exact ⟨_,rfl,RowBlk.zero _ _ _,(B1.out.setCell (by simp only; omega) _).setCell (by simp only; omega) _⟩
 ·rw [e1,e2]
  obtain ⟨s1,s2⟩:=yaal c2
  have S1:=zaa s1
  clear e1 e2 s1 s2
  go_enter Tryz.func82,Tryz.ntmps82
  go_wp2_with fail
  refine (zei _ ws ps _ (HR.out.below hb0) (HG.out.below hb0) hw hp).mono ?_
  rw [S1.out]
  rintro e w1 ⟨v1,rfl,hr1,hb1⟩
  obtain ⟨aU,cU,rfl⟩:=RdI.form hr1.rd rfl
  have V1:=(hb1.block (w.heap.size + 1) (by simp)).trans (zag (by simp))
  obtain ⟨t1,t2,t3,t4⟩:=zad V1
  have B1:=zaa (zab hb0 hb1 (by simp <;> omega))
  clear hb0 hb1 V1 hr1
  go_wp2_with (go_at_call 122; refine (zdy _ zs _ (Rd.below HZ.out B1.out) (by omega)).mono ?_; rintro e w1 ⟨rfl,rfl⟩)
  refine bodyPost_ret (v:=.tuple #[.agg #[.slice none 0 0,.slice none 0 0],.int .i64 4]) (by simp [results,Tryz.results82,go_sem,t1,t2]) rfl ?_
  exact ⟨_,rfl,RowBlk.zero _ _ _,(B1.out.setCell (by simp only; omega) _).setCell (by simp only; omega) _⟩
 ·rw [e1,e2]
  obtain ⟨s1,s2⟩:=yaal c2
  have S1:=zaa s1
  have L32:=zaa (zbs c2).1
  have KB:=zaa (zoc c3)
  obtain ⟨bW,oW,rfl,hbW,hcellW⟩:=HW.out (by have:=L32.out; omega)
  have HCW:=zaa hcellW
  clear e1 e2 s1 hcellW
  go_enter Tryz.func82,Tryz.ntmps82
  go_wp2_with fail
  refine (zei _ ws ps _ (HR.out.below hb0) (HG.out.below hb0) hw hp).mono ?_
  rw [S1.out,s2]
  rintro e w1 ⟨v1,rfl,hr1,hb1⟩
  obtain ⟨aU,cU,rfl⟩:=RdI.form hr1.rd (n:=(zar ps 32).length) (zdf ps 32)
  have hz1:w.heap.size + 2 ≤ w1.heap.size:=by have:=hb1.size; simp at this; omega
  have V0:=(hb1.block w.heap.size (by simp <;> omega)).trans (zal (zag rfl))
  have V1:=(hb1.block (w.heap.size + 1) (by simp)).trans (zag (by simp))
  have B1:=zaa (zab hb0 hb1 (by simp <;> omega))
  have RU:=zaa (hr1.wide (lo':=w.heap.size + 2) (hi':=w1.heap.size) (by simp) (Nat.le_refl _))
  obtain ⟨x1,x2,x3,x4⟩:=zad V0
  have RNG:=zaa (zrv (w:=w1) (b:=bW) (o:=oW) (zs:=ws) (fun k hk => (B1.out.cell (p:=⟨bW,oW + k,none⟩) hbW).trans (HCW.out k hk)))
  have SZ:=zaa (show (Tryz.prog.info? 162).map (·.size) = some (zav ws).length by rw [zdg,L32.out]; exact yacs)
  have SZ2:=zaa (show (Tryz.prog.info? 162).map (·.size) = some (zav ws).toArray.size by rw [List.size_toArray,zdg,L32.out]; exact yacs)
  have SZ3:=zaa (show zfo.size = (zav ws).toArray.size by rw [zje,List.size_toArray,zdg,L32.out])
  have START:Hid (CrB w w1 (w1.alloc (.cells (zav ws).toArray 162)) (spE (zar ps 32) zs ps ws 0) (zcr ps 32) (.slice (some ⟨bW,oW,none⟩) ws.length cW) (.slice aP ps.length cP) (.slice aU (zar ps 32).length cU)) :=
   ⟨yaun w1 ws L32.out,RU.out.alloc (Nat.le_refl _) _,zal V0,zal V1,B1.out.alloc (by omega) _,by simp⟩
  have hal:=zke
  have har:=zpn (some ⟨bW,oW,none⟩) ws.length cW (by have:=L32.out; omega)
  have hul:(zar ps 32).length ≤ 32:=by rw [← zdf]; exact zob ps 32
  clear hb0 hb1 V0 V1 hr1
  go_wp2_with (first
   | (go_at_call 122; refine (zdy _ zs _ (Rd.below HZ.out B1.out) (by omega)).mono ?_; rintro e w1 ⟨rfl,rfl⟩)
   | (refine wpList_load_mid rfl 162 (.tmp 31) rfl bW oW rfl (zav ws) _ RNG.out Tryz.underlying162 rfl SZ.out ?_)
   | (refine zhi rfl 162 (.tmp 8) (.tmp 32) rfl zfo (zav ws).toArray rfl rfl SZ2.out SZ3.out (yadk ws) ?_))
  clear hal har x1 x2 x3 x4
  go_loopw [9,10,11,35] (fun _ _ _ ii wr => ∃ i:Nat,i ≤ (zar ps 32).length ∧ ii = .int .i64 i ∧ Hid (CrB w w1 wr (spE (zar ps 32) zs ps ws i) (zcr ps 32) (.slice (some ⟨bW,oW,none⟩) ws.length cW) (.slice aP ps.length cP) (.slice aU (zar ps 32).length cU))) (fun _ _ _ ii _ => (zar ps 32).length - (intOf ii).toNat)
  case atStart => exact ⟨0,by omega,rfl,START⟩
  case round =>
   obtain ⟨i,hi,rfl,I⟩:=hrel
   by_cases hlt:i < (zar ps 32).length
   ·have ha32:(zar ps 32)[i]?.getD 0 < 32:=yaeo ps 32 i hlt
    have hal:(zar ps 32)[i]?.getD 0 < ws.length:=by rw [L32.out]; exact ha32
    have hpl:=I.out.plc
    rw [zdf] at hpl
    obtain ⟨_,au',cu',eu',_,hcu⟩:=hpl.rd
    cases eu'
    obtain ⟨bu,ou,rfl,_,_⟩:=hcu (by omega)
    obtain ⟨rfl,_,_,_,_,hclu⟩:=hpl.at
    have hil:i < (zcr ps 32).length:=by rw [zdf]; exact hlt
    have u0:=(hclu i (by omega)).trans (zax _ i hil)
    rw [zub] at u0
    clear hpl hcu hclu
    have HAS:=zaa (yajs ps 32 i hlt)
    obtain ⟨kb0,kb1⟩:=KB.out i
    have hzr:=I.out.size
    obtain ⟨y1,y2,y3,y4⟩:=zad I.out.box
    obtain ⟨f1,f2,f3,f4⟩:=zad (zal (o:=.cells #[.int .i64 0,.int .i64 0] 156) I.out.box)
    by_cases hk:0 < zck zs i
    ·have SP:=zaa (yash (us:=zar ps 32) (ws:=ws) hk HAS.out)
     have LH:=zaa (zov hk HAS.out)
     clear hk
     generalize hkk:zck zs i = kk at *
     have HKK:=zaa hkk
     have hspl:(zar ps 32)[i]?.getD 0 < (spE (zar ps 32) zs ps ws i).length:=by rw [zim]; exact hal
     have mn:((((zar ps 32)[i]?.getD 0:Nat):Int) == -1) = false:=by first | (simp; done) | (simp; omega)
     generalize (zar ps 32)[i]?.getD 0 = a at *
     clear hkk
     go_wp2_with fail
     go_region_with (first
      | (go_at_call 125; refine (zlu _ zs i _ (Rd.below HZ.out (by repeat (first | exact I.out.below | refine zat ?_ _ | refine Below.drew ?_))) hzl (by omega)).mono ?_; rw [HKK.out]; rintro e w' ⟨rfl,rfl⟩)
      | (go_at_call 127; refine (zfk _ ps _ _ _ (Rd.below H2.out (by repeat (first | exact I.out.below | refine zat ?_ _ | refine Below.drew ?_))) (HG.out.below (by repeat (first | exact I.out.below | refine zat ?_ _ | refine Below.drew ?_))) hp kb0 kb1).mono ?_; rw [LH.out]; rintro e wa ⟨rfl,hba⟩; have BA:Hid (Below wr.heap.size wr wa):=zab (b:=_) (by repeat (first | exact Below.refl _ _ | refine zat ?_ _ | refine Below.drew ?_)) hba (Below.size (B:=wr.heap.size) (by repeat (first | exact Below.refl _ _ | refine zat ?_ _ | refine Below.drew ?_))); (first | (have VX:Hid (wa.heap[wr.heap.size]? = some (.cells #[.int .i64 0,.int .i64 0] 156 (0,0))):=(hba.block wr.heap.size (by first | (rw [World.size_alloc]; exact Nat.lt_succ_self _) | (show _ < (World.alloc _ _).heap.size; rw [World.size_alloc]; exact Nat.lt_succ_self _))).trans (zag rfl); obtain ⟨s0,s1,s2,s3⟩:=zad VX.out) | skip); generalize (znr (a:Int) kk ps).val = yy at *; obtain ⟨k0,k1⟩:=((HG.out.below I.out.below).below BA.out).cells; obtain ⟨l0,l1⟩:=((HG.out.below I.out.below).below (zat BA.out (.cells #[.int .i64 (a:Int),.int .i64 yy] 156))).cells; obtain ⟨_,_,_,_,hfr1,hcl1⟩:=(I.out.later BA.out hz1).arr.at; have r0:=hfr1 a; have r1:=(hcl1 a (by omega)).trans (zax _ a hspl); obtain ⟨_,_,_,_,hfr2,hcl2⟩:=(I.out.later (zat BA.out (.cells #[.int .i64 (a:Int),.int .i64 yy] 156)) hz1).arr.at; have r2:=hfr2 a; have r3:=(hcl2 a (by omega)).trans (zax _ a hspl); clear hfr1 hcl1 hfr2 hcl2; clear hba))
     all_goals
      go_wp2
      go_roundw
      case rel =>
       refine ⟨i + 1,by omega,by go_num,?_⟩
       rw [SP.out]
       first
        | exact ((I.out.later BA.out hz1).store hz1 a yy).later (zat (Below.refl _ _) _) hz1
        | exact (((I.out.later BA.out hz1).store hz1 a yy).later (zat (Below.refl _ _) _) hz1).drew
        | exact ((I.out.later BA.out hz1).drew.store hz1 a yy).later (zat (Below.refl _ _) _) hz1
        | exact (I.out.later (LCut.below (LCut.new BA.out)) hz1).store hz1 a yy
        | exact ((I.out.later (LCut.below (LCut.new BA.out)) hz1).store hz1 a yy).drew
        | exact (I.out.later (LCut.below (LCut.new BA.out).drew) hz1).store hz1 a yy
        | exact ((I.out.later (LCut.below (LCut.new BA.out).drew) hz1).store hz1 a yy).drew
        | exact (I.out.later (LCut.below (LCut.old BA.out (Nat.le_refl _) VX.out)) hz1).store hz1 a yy
        | exact ((I.out.later (LCut.below (LCut.old BA.out (Nat.le_refl _) VX.out)) hz1).store hz1 a yy).drew
        | exact (I.out.later (LCut.below (LCut.old BA.out (Nat.le_refl _) VX.out).drew) hz1).store hz1 a yy
        | exact ((I.out.later (LCut.below (LCut.old BA.out (Nat.le_refl _) VX.out).drew) hz1).store hz1 a yy).drew
      case measure => simp [intOf]; omega
    ·have SP:=zaa (yani (us:=zar ps 32) (ps:=ps) hk hal)
     have hk0:zck zs i = 0:=by omega
     clear hk
     have LH:=zaa (yagg (ps:=ps) (a:=(((zar ps 32)[i]?.getD 0:Nat):Int)) (mo:=zck zs i) (by omega))
     clear hk0
     generalize hkk:zck zs i = kk at *
     have HKK:=zaa hkk
     generalize (zar ps 32)[i]?.getD 0 = a at *
     clear hkk
     go_wp2_with fail
     go_region_with (first
      | (go_at_call 125; refine (zlu _ zs i _ (Rd.below HZ.out (by repeat (first | exact I.out.below | refine zat ?_ _ | refine Below.drew ?_))) hzl (by omega)).mono ?_; rw [HKK.out]; rintro e w' ⟨rfl,rfl⟩)
      | (go_at_call 127; refine (zfk _ ps _ _ _ (Rd.below H2.out (by repeat (first | exact I.out.below | refine zat ?_ _ | refine Below.drew ?_))) (HG.out.below (by repeat (first | exact I.out.below | refine zat ?_ _ | refine Below.drew ?_))) hp kb0 kb1).mono ?_; rw [LH.out]; rintro e wa ⟨rfl,hba⟩; have BA:Hid (Below wr.heap.size wr wa):=zab (b:=_) (by repeat (first | exact Below.refl _ _ | refine zat ?_ _ | refine Below.drew ?_)) hba (Below.size (B:=wr.heap.size) (by repeat (first | exact Below.refl _ _ | refine zat ?_ _ | refine Below.drew ?_))); (first | (have VX:Hid (wa.heap[wr.heap.size]? = some (.cells #[.int .i64 0,.int .i64 0] 156 (0,0))):=(hba.block wr.heap.size (by first | (rw [World.size_alloc]; exact Nat.lt_succ_self _) | (show _ < (World.alloc _ _).heap.size; rw [World.size_alloc]; exact Nat.lt_succ_self _))).trans (zag rfl); obtain ⟨s0,s1,s2,s3⟩:=zad VX.out) | skip); obtain ⟨k0,k1⟩:=((HG.out.below I.out.below).below BA.out).cells; obtain ⟨l0,l1⟩:=((HG.out.below I.out.below).below (zat BA.out (.cells #[.int .i64 (-1),.int .i64 0] 156))).cells; clear hba))
     all_goals
      go_wp2
      go_roundw
      case rel =>
       refine ⟨i + 1,by omega,by go_num,?_⟩
       rw [SP.out]
       first
        | exact (I.out.later (LCut.below (LCut.new BA.out)) hz1)
        | exact (I.out.later (LCut.below (LCut.new BA.out)) hz1).drew
        | exact (I.out.later (LCut.below (LCut.new BA.out).drew) hz1)
        | exact (I.out.later (LCut.below (LCut.new BA.out).drew) hz1).drew
        | exact (I.out.later (LCut.below (LCut.old BA.out (Nat.le_refl _) VX.out)) hz1)
        | exact (I.out.later (LCut.below (LCut.old BA.out (Nat.le_refl _) VX.out)) hz1).drew
        | exact (I.out.later (LCut.below (LCut.old BA.out (Nat.le_refl _) VX.out).drew) hz1)
        | exact (I.out.later (LCut.below (LCut.old BA.out (Nat.le_refl _) VX.out).drew) hz1).drew
      case measure => simp [intOf]; omega
   ·have e:i = (zar ps 32).length:=by omega
    subst e
    obtain ⟨t1,t2,t3,t4⟩:=zad I.out.res
    have hsz:=I.out.size
    go_wp2
    refine bodyPost_ret (v:=.tuple #[.agg #[.slice (some ⟨w1.heap.size,0,none⟩) 32 32,.slice none 0 0],.int .i64 0]) (by simp [results,Tryz.results82,go_sem,t1,t2]) rfl ?_
    refine ⟨_,rfl,⟨_,_,rfl,⟨162,by decide,?_⟩,Row.nil _ _ _ _ _⟩,(I.out.below.setCell (by simp only; omega) _).setCell (by simp only; omega) _⟩
    rw [zim,L32.out]
    refine (I.out.arr.same fun b h1 h2 => ?_).wide (by omega) (by simp; omega)
    rw [Below.heap_setCell _ _ _ _ (by simp only; omega),Below.heap_setCell _ _ _ _ (by simp only; omega)]
end Go.Proofs.YtlkmnpanddchdaaGreatDoor
