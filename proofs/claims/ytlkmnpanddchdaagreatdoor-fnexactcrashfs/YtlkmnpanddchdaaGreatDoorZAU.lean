/- Several texts laid together: OpenA, Open, PmFlushI, PmFenceI. -/
import Derived.Test.YtlkmnpanddchdaaGreatDoorZAA
import Derived.ProofKit
import Derived.OpenShut
import Derived.ShutString
import Derived.ChangeOld
import Derived.Lib.SmallJoins
import Derived.Deep.Slices
import Derived.Deep.Strs
import Derived.Test.YtlkmnpanddchdaaGreatDoorZAB
import Derived.Test.YtlkmnpanddchdaaGreatDoorZAF
namespace Go.Proofs.YtlkmnpanddchdaaGreatDoor
open Go.ChangeShapes Go.WideShapes Go.ChangeAt Go.RowKit Go.Joins
theorem own:ownKnob Tryz.prog.godebug = none:=by kernel_rfl
theorem zhx:laidOutB Tryz.prog = true:=by kernel_rfl
theorem zlc:Tryz.prog.cellsOf 3 = 1:=by kernel_rfl
theorem yaux:Tryz.prog.cellsOf 4 = 1:=by kernel_rfl
theorem zfp {α:Type} {P:Nat → α → Prop}:∀ (n:Nat),(∀ i,i < n → ∃ x,P i x) → ∃ l:List α,l.length = n ∧ ∀ i (hi:i < l.length),P i l[i]
 | 0,_ => ⟨[],rfl,fun i hi => absurd hi (by simp)⟩
 | n + 1,h => by
  obtain ⟨l,hl,hp⟩:=zfp n (fun i hi => h i (by omega))
  obtain ⟨x,hx⟩:=h n (by omega)
  refine ⟨l ++ [x],by simp [hl],fun i hi => ?_⟩
  by_cases e:i < l.length
  ·rw [List.getElem_append_left e]; exact hp i e
  ·have e':i = n:=by simp at hi; omega
   subst e'
   rw [List.getElem_append_right (by omega)]
   simpa [hl] using hx
section
variable {H:Type} {enc:TypeId × Value → H} {W:World} {sp:Nat → Bool} {held:Bool} {fuel:Nat} {v:Value} {y:DataW H × List MemPlace}
theorem zhc (h:DataW.trod enc Tryz.prog W 0 sp held fuel 22 [v] = some y):∃ zs:List Int,RdI W v zs ∧ zs.length ≤ maxLen ∧ ∀ z ∈ zs,(Lit.int .i64 z).wf = true:=by
 rcases open_ints Tryz.underlying22 Tryz.underlying3 zlc h with ⟨hcs,_⟩ | ⟨a,len,cap,zs,hcs,_,hl,hm,hz,_,hcell,hwz⟩
 ·simp only [List.cons.injEq,and_true] at hcs
  subst hcs
  exact ⟨[],⟨rfl,none,0,rfl,⟨Nat.le_refl _,fun _ => rfl⟩,fun h => absurd h (by simp)⟩,by simp,fun z hz => by simp at hz⟩
 ·simp only [List.cons.injEq,and_true] at hcs
  subst hcs
  have hzl:len ≤ zs.length:=by rw [hz]; split <;> omega
  have e:(zs.take len).length = len:=by simp; omega
  refine ⟨zs.take len,⟨by simp [zav],some a,cap,by rw [e],⟨by rw [e]; exact hl,fun e => by cases e⟩,fun hn => ?_⟩,by rw [e]; omega,fun z hz => hwz z (List.mem_of_mem_take hz)⟩
  rw [e] at hn
  obtain ⟨b,off,spot⟩:=a
  have hc:=hcell 0 (by omega)
  have hspot:spot = none:=by simpa [Addr.add] using World.cell?_spot hc
  subst hspot
  refine ⟨b,off,rfl,World.block_lt_of_cell? W _ (by simpa [Addr.add] using hc),fun j hj => ?_⟩
  rw [e] at hj
  have hc:=hcell j (by omega)
  rw [Addr.add_lit] at hc
  rw [hc,zax _ j (by rw [e]; omega)]
  simp [List.getD,show j < zs.length by omega]
end
end Go.Proofs.YtlkmnpanddchdaaGreatDoor

namespace Go.Proofs.YtlkmnpanddchdaaGreatDoor
open Go.ChangeShapes Go.WideShapes Go.ChangeAt Go.RowKit Go.Joins
theorem yafo:Tryz.prog.cellsOf 169 = 3:=by kernel_rfl
theorem yamb:Tryz.prog.cellsOf 25 = 2:=by kernel_rfl
section
variable {H:Type} {enc:TypeId × Value → H} {W:World} {sp:Nat → Bool} {held:Bool} {fuel:Nat} {v:Value} {y:DataW H × List MemPlace}
set_option maxRecDepth 100000 in
theorem yadl (h:DataW.trod enc Tryz.prog W 0 sp held fuel 23 [v] = some y):∃ ps:List St,RdS W v ps ∧ ps.length ≤ maxLen ∧ ∀ p ∈ ps,(Lit.int .i64 p.at_).wf = true ∧ (Lit.int .i64 p.val).wf = true:=by
 rcases Deep.open_slice Tryz.underlying23 h with ⟨hcs,_⟩ | ⟨a,len,cap,m,n,D,Pl,hcs,_,hl,hm,hmm,_,hel⟩
 ·simp only [List.cons.injEq,and_true] at hcs
  subst hcs
  exact ⟨[],⟨rfl,none,0,rfl,⟨Nat.le_refl _,fun _ => rfl⟩,fun h => absurd h (by simp)⟩,by simp,fun p hp => by simp at hp⟩
 ·simp only [List.cons.injEq,and_true] at hcs
  subst hcs
  have hlm:len ≤ m:=by rw [hmm]; split <;> omega
  have one:∀ i,i < len → ∃ s:St,(W.cell? ((a.add (i * 3)).add 0) = some (.int .i64 s.at_) ∧ W.cell? ((a.add (i * 3)).add 1) = some (.int .i64 s.val) ∧ W.cell? ((a.add (i * 3)).add 2) = some (.bool s.fl)) ∧ (Lit.int .i64 s.at_).wf = true ∧ (Lit.int .i64 s.val).wf = true:=by
   intro i hi
   obtain ⟨cs,hcs,ht⟩:=hel i (by omega)
   rw [yafo] at hcs
   obtain ⟨_,hlen,hc⟩:=World.cells?_some hcs
   obtain ⟨y0,y1,y2,n',_,_,t0,t1,t2⟩:=Deep.trod_struct3 Tryz.underlying169 ht
   obtain ⟨z0,e0,_,w0⟩:=DataW.trod_int Tryz.underlying3 t0
   obtain ⟨z1,e1,_,w1⟩:=DataW.trod_int Tryz.underlying3 t1
   obtain ⟨z2,e2,_⟩:=DataW.trod_bool Tryz.underlying4 t2
   simp only [zlc,yaux] at e0 e1 e2
   match cs,hlen with
   | [c0,c1,c2],_ =>
    simp at e0 e1 e2
    subst e0 e1 e2
    exact ⟨⟨z0,z1,z2⟩,⟨by simpa using hc 0 (by omega),by simpa using hc 1 (by omega),by simpa using hc 2 (by omega)⟩,w0,w1⟩
  obtain ⟨ps,hpl,hps⟩:=zfp len one
  refine ⟨ps,⟨zmd ps,some a,cap,by rw [hpl],⟨by rw [hpl]; exact hl,fun e => by cases e⟩,fun hn => ?_⟩,by rw [hpl]; omega,fun p hp => ?_⟩
  ·obtain ⟨b,off,spot⟩:=a
   have hc:=(hps 0 hn).1.1
   have hspot:spot = none:=by simpa [Addr.add] using World.cell?_spot hc
   subst hspot
   refine ⟨b,off,rfl,World.block_lt_of_cell? W _ (by simpa [Addr.add] using hc),fun j hj => ?_⟩
   have hk:j / 3 < ps.length:=by omega
   obtain ⟨⟨q0,q1,q2⟩,_⟩:=hps (j / 3) hk
   simp only [Addr.add_lit,Nat.add_zero] at q0 q1 q2
   have hj3:j = j / 3 * 3 + j % 3:=by omega
   rcases (show j % 3 = 0 ∨ j % 3 = 1 ∨ j % 3 = 2 from by omega) with r | r | r
   ·rw [hj3,r,Nat.add_zero,q0,zfa ps _ hk]
   ·rw [hj3,r,← Nat.add_assoc,q1,zho ps _ hk]
   ·rw [hj3,r,← Nat.add_assoc,q2,zio ps _ hk]
  ·obtain ⟨i,hi,rfl⟩:=List.getElem_of_mem hp
   exact (hps i hi).2
end
end Go.Proofs.YtlkmnpanddchdaaGreatDoor

namespace Go.Proofs.YtlkmnpanddchdaaGreatDoor
open Go.RowKit
def zdn (ws:List Int) (ps:List St) (at_:Int):List Int:=if zka ws ps at_ = 0 then ws else []
def zdp (ws:List Int) (ps:List St) (at_:Int):List St:=if zka ws ps at_ = 0 then ps.map (fl1 at_) else []
theorem yajx {ws:List Int} {ps:List St} {at_:Int} (h:¬ zka ws ps at_ = 0):zdn ws ps at_ = [] ∧ zdp ws ps at_ = []:=by
 unfold zdn zdp
 rw [if_neg h,if_neg h]
 exact ⟨rfl,rfl⟩
theorem yaps {ws:List Int} {ps:List St} {at_:Int} (h:zka ws ps at_ = 0):zdn ws ps at_ = ws ∧ zdp ws ps at_ = ps.map (fl1 at_):=by
 unfold zdn zdp
 rw [if_pos h,if_pos h]
 exact ⟨rfl,rfl⟩
set_option maxHeartbeats 4000000 in
theorem zpi (v:Value) (ws:List Int) (ps:List St) (at_:Int) (w:World) (h:RdPm w v ws ps) (hw:ws.length ≤ 1048576) (hp:ps.length ≤ 1048576) :
  Calls Tryz.prog 148 #[v,.int .i64 at_] w fun e w' => ∃ v',e = .returned (.tuple #[v',.int .i64 (zka ws ps at_)]) ∧ RowPm w' w.heap.size w'.heap.size v' (zdn ws ps at_) (zdp ws ps at_) ∧ Below w.heap.size w w':=by
 have HR:=zaa h
 obtain ⟨vW,vP,rfl,h1,h2⟩:=h
 obtain ⟨aW,cW,rfl,_⟩:=h1.shape
 obtain ⟨aP,cP,rfl,_⟩:=h2.shape
 clear h1 h2
 have hb0:Below w.heap.size w ((w.alloc (.cells #[.slice aW ws.length cW,.slice aP ps.length cP] 40)).alloc (.cells #[.slice none 0 0,.slice none 0 0] 40)):=by
  repeat (refine Below.alloc ?_ (by simp <;> omega) _)
  exact Below.refl _ _
 rcases zrz ws ps at_ with hc | ⟨hc,hok,k,rfl,hk,hkl⟩
 ·obtain ⟨e2,e3⟩:=yajx (ws:=ws) (ps:=ps) (at_:=at_) (by rcases hc with hc | hc <;> simp [hc])
  rw [e2,e3]
  clear e2 e3
  have hne:(zka ws ps at_ != 0) = true:=by rcases hc with hc | hc <;> simp [hc]
  clear hc
  go_enter Tryz.func148,Tryz.ntmps148
  go_wp2_with fail
  refine (zcw _ ws ps _ _ (HR.out.below hb0) hw hp).mono ?_
  rintro e w1 ⟨rfl,hb1⟩
  have V1:=(hb1.block (w.heap.size + 1) (by simp)).trans (zag (by simp))
  obtain ⟨t1,t2,t3,t4⟩:=zad V1
  have B1:=zaa (zab hb0 hb1 (by simp <;> omega))
  clear hb0 hb1 V1
  go_wp2
  refine bodyPost_ret (v:=.tuple #[.agg #[.slice none 0 0,.slice none 0 0],.int .i64 (zka ws ps at_)]) (by simp [results,Tryz.results148,go_sem,t1,t2]) rfl ?_
  exact ⟨_,rfl,RowPm.zero _ _ _,(B1.out.setCell (by simp only; omega) _).setCell (by simp only; omega) _⟩
 ·obtain ⟨e2,e3⟩:=yaps hc
  rw [e2,e3]
  clear e2 e3
  have C:=zaa hc
  have OK:=zaa (zsk hok)
  clear hc hok
  go_enter Tryz.func148,Tryz.ntmps148
  go_wp2_with fail
  refine (zcw _ ws ps _ _ (HR.out.below hb0) hw hp).mono ?_
  rw [C.out]
  rintro e w1 ⟨rfl,hb1⟩
  have hz1:w.heap.size + 2 ≤ w1.heap.size:=by have:=hb1.size; simp at this; omega
  have V0:=(hb1.block w.heap.size (by simp <;> omega)).trans (zal (zag rfl))
  have V1:=(hb1.block (w.heap.size + 1) (by simp)).trans (zag (by simp))
  obtain ⟨x1,x2,x3,x4⟩:=zad V0
  have B1:=zaa (zab hb0 hb1 (by simp <;> omega))
  have VH:=zaa V1
  clear hb0 hb1 V0 V1
  go_wp2_with fail
  refine (ziw _ ws ps _ (HR.out.below B1.out) (by omega) (by omega)).mono ?_
  rintro e w2 ⟨v2,rfl,hr2,hb2⟩
  obtain ⟨vW2,vP2,rfl,hI2,hS2⟩:=hr2
  obtain ⟨aW2,cW2,rfl⟩:=RdI.form hI2.rd rfl
  obtain ⟨aP2,cP2,rfl⟩:=RdS.form hS2.rd rfl
  have hz2:=hb2.size
  have B2:=zaa ((zab B1.out hb2 (by omega)).alloc (by omega) (.cells #[.slice aW2 ws.length cW2,.slice aP2 ps.length cP2] 40))
  have V2:=zaa (zal (o:=.cells #[.slice aW2 ws.length cW2,.slice aP2 ps.length cP2] 40) ((hb2.block _ hz1).trans VH.out))
  have bb:Below w2.heap.size w2 (w2.alloc (.cells #[.slice aW2 ws.length cW2,.slice aP2 ps.length cP2] 40)):=(Below.refl _ _).alloc (Nat.le_refl _) _
  have RI:=zaa (hI2.below bb (Nat.le_refl _))
  have RS:=zaa (hS2.below bb (Nat.le_refl _))
  have V7:Hid ((w2.alloc (.cells #[.slice aW2 ws.length cW2,.slice aP2 ps.length cP2] 40)).heap[w2.heap.size]? = some (.cells #[.slice aW2 ws.length cW2,.slice aP2 ps.length cP2] 40 (0,0))):=zag rfl
  clear hb2 hI2 hS2 bb x1 x2 x3 x4
  go_wp2
  go_loopw [8,21] (fun _ i wr => ∃ m:Nat,m ≤ ps.length ∧ i = .int .i64 m ∧ Row wr 153 3 w1.heap.size w2.heap.size (.slice aP2 ps.length cP2) ps.length (sts (mix (k:Int) ps m)) ∧ Row wr 3 1 w1.heap.size w2.heap.size (.slice aW2 ws.length cW2) ws.length (zav ws) ∧ (wr.heap[w2.heap.size]? = some (.cells #[.slice aW2 ws.length cW2,.slice aP2 ps.length cP2] 40 (0,0)) ∧ wr.heap[w.heap.size + 1]? = some (.cells #[.slice none 0 0,.slice none 0 0] 40 (0,0))) ∧ Below w.heap.size w wr ∧ w2.heap.size + 1 ≤ wr.heap.size) (fun _ i _ => ps.length - (intOf i).toNat)
  case atStart => exact ⟨0,by omega,rfl,by rw [yadb]; exact RS.out,RI.out,⟨V7.out,V2.out⟩,B2.out,by simp⟩
  case round =>
   obtain ⟨m,hm,rfl,hrow,hint,hv,hb,hz⟩:=hrel
   obtain ⟨y1,y2,y3,y4⟩:=zad hv.1
   by_cases hlt:m < ps.length
   ·have hl:=zto (k:Int) ps m hm
    obtain ⟨_,ao',cap',e',_,hc⟩:=hrow.rd
    cases e'
    obtain ⟨b,o,rfl,hbl,_⟩:=hc (by omega)
    obtain ⟨rfl,hb1,hb2,_,hfr,hcl⟩:=hrow.at
    have hml:m < (mix (k:Int) ps m).length:=by omega
    have e0:=(hcl (m * 3) (by omega)).trans (zfa _ m hml)
    have e2:=(hcl (m * 3 + 2) (by omega)).trans (zio _ m hml)
    rw [yacn _ _ _ hlt hml] at e0 e2
    have f2:=hfr (m * 3 + 2)
    obtain ⟨q0,q1⟩:=OK.out m hlt
    have ST:=zaa (hrow.stored (m * 3 + 2) (.bool true))
    have IT:=zaa (hint.apart hrow (by decide) (World.ownsRow.stored hrow.1 (m * 3 + 2) (.bool true)).2)
    have BH2:=zaa (hb.setCell (p:=⟨b,m * 3 + 2,none⟩) (by simp only; omega) (.bool true))
    have VH2:=zaa (And.intro ((Below.heap_setCell wr ⟨b,m * 3 + 2,none⟩ (.bool true) w2.heap.size (by simp only; omega)).trans hv.1) ((Below.heap_setCell wr ⟨b,m * 3 + 2,none⟩ (.bool true) (w.heap.size + 1) (by simp only; omega)).trans hv.2))
    have RM:=zaa hrow
    have IM:=zaa hint
    have VM:=zaa hv
    clear hrow hint hc hfr hcl hv hl
    by_cases c:ps[m].at_ / 8 = (k:Int) / 8
    ·have c':(ps[m].at_ / 8 == (k:Int) / 8) = true:=by simpa using c
     have E:=zaa (yalc hlt c)
     clear c
     go_wp2
     go_roundw
     case rel => exact ⟨m + 1,by omega,by go_num,E.out ▸ ST.out,IT.out,VH2.out,BH2.out,by simp; omega⟩
     case measure => simp [intOf]; omega
    ·have c':(ps[m].at_ / 8 == (k:Int) / 8) = false:=by simpa using c
     have E:=zaa (yads hlt c)
     clear c
     go_wp2
     go_roundw
     case rel => exact ⟨m + 1,by omega,by go_num,E.out ▸ RM.out,IM.out,VM.out,hb,hz⟩
     case measure => simp [intOf]; omega
   ·have e:m = ps.length:=by omega
    subst e
    obtain ⟨t1,t2,t3,t4⟩:=zad hv.2
    have RM:=zaa hrow
    have IM:=zaa hint
    clear hrow hint hv
    go_wp2
    rw [C.out]
    refine bodyPost_ret (v:=.tuple #[.agg #[.slice aW2 ws.length cW2,.slice aP2 ps.length cP2],.int .i64 0]) (by simp [results,Tryz.results148,go_sem,t1,t2]) rfl ?_
    have hrow:RowPm wr w1.heap.size w2.heap.size (.agg #[.slice aW2 ws.length cW2,.slice aP2 ps.length cP2]) ws (ps.map (fl1 (k:Int))):=by
     refine ⟨_,_,rfl,IM.out,?_⟩
     rw [List.length_map,← yaia]
     exact RM.out
    exact ⟨_,rfl,((hrow.setCell (by simp only; omega) _).setCell (by simp only; omega) _).wide (by omega) (by simp; omega),(hb.setCell (by simp only; omega) _).setCell (by simp only; omega) _⟩
def zng (ws:List Int) (ps:List St):Int:=if pmB ws ps = true then 0 else 1
def zdo (ws:List Int) (ps:List St):List Int:=if pmB ws ps = true then zjn ws ps else []
def zdm (ws:List Int) (ps:List St):List St:=if pmB ws ps = true then zgw ps else []
theorem yamj {ws:List Int} {ps:List St} (h:pmB ws ps = false):zng ws ps = 1 ∧ zdo ws ps = [] ∧ zdm ws ps = []:=by
 unfold zng zdo zdm
 rw [h]
 exact ⟨rfl,rfl,rfl⟩
theorem yapz {ws:List Int} {ps:List St} (h:pmB ws ps = true):zng ws ps = 0 ∧ zdo ws ps = zjn ws ps ∧ zdm ws ps = zgw ps:=by
 unfold zng zdo zdm
 rw [h]
 exact ⟨rfl,rfl,rfl⟩
structure FenInvI (w wr:World) (ws:List Int) (ps:List St) (lo hi:Nat) (vW vL:Value) (m:Nat):Prop where
 words:Row wr 3 1 lo hi vW ws.length (zav (zjn ws (ps.take m)))
 left:wr.ownsRow (hi + 1) 153 3 vL (zgw (ps.take m)).length (sts (zgw (ps.take m)))
 aft:wr.heap[hi]? = some (.cells #[vW,vL] 40 (0,0))
 res:wr.heap[w.heap.size + 1]? = some (.cells #[.slice none 0 0,.slice none 0 0] 40 (0,0))
 below:Below w.heap.size w wr
 size:hi + 1 ≤ wr.heap.size
theorem FenInvI.hit {w wr:World} {ws:List Int} {ps:List St} {lo hi:Nat} {b n cap:Nat} {vL:Value} {m:Nat} (h:FenInvI w wr ws ps lo hi (.slice (some ⟨b,0,none⟩) n cap) vL m) (hm:m < ps.length) (hf:ps[m].fl = true) (hlo:w.heap.size + 2 ≤ lo) (o:Obj) (hn:n = ws.length) :
  FenInvI w ((wr.setCell ⟨b,ps[m].at_.toNat,none⟩ (.int .i64 ps[m].val)).alloc o) ws ps lo hi (.slice (some ⟨b,0,none⟩) n cap) vL (m + 1):=by
 subst hn
 obtain ⟨h1,h2,h4,h5,h6,h7⟩:=h
 obtain ⟨_,hb1,hb2,_⟩:=h1.at
 have e1:zjn ws (ps.take (m + 1)) = (zjn ws (ps.take m)).set ps[m].at_.toNat ps[m].val:=by rw [zbb ps m hm,zkl,if_pos hf]
 have e2:zgw (ps.take (m + 1)) = zgw (ps.take m):=by rw [zbb ps m hm,zkj,if_pos hf]
 refine ⟨?_,?_,?_,?_,?_,?_⟩
 ·rw [e1,← zem]
  exact (h1.stored _ _).alloc (by simp; omega) o
 ·rw [e2]
  exact ((zai h2).same (w':=wr.setCell ⟨b,ps[m].at_.toNat,none⟩ (.int .i64 ps[m].val)) (fun k hk _ => Below.heap_setCell _ _ _ _ (by simp only; omega))).1.alloc o
 ·refine zal ?_
  rw [Below.heap_setCell _ _ _ _ (by simp only; omega)]; exact h4
 ·refine zal ?_
  rw [Below.heap_setCell _ _ _ _ (by simp only; omega)]; exact h5
 ·exact (h6.setCell (by simp only; omega) _).alloc (by simp; exact h6.size) o
 ·simp; omega
theorem FenInvI.miss {w wr w':World} {ws:List Int} {ps:List St} {lo hi:Nat} {vW vL vL':Value} {m:Nat} (h:FenInvI w wr ws ps lo hi vW vL m) (hm:m < ps.length) (hf:ps[m].fl = false) (hlo:w.heap.size + 2 ≤ lo) (hhi:lo ≤ hi) (o o':Obj)
  (ho:w'.ownsRow (hi + 1) 153 3 vL' ((zgw (ps.take m)).length + 1) (sts (zgw (ps.take m)) ++ St.cells ps[m])) (hg:((wr.alloc o).alloc o').grownBy w' vL.ownBlock) :
  FenInvI w (w'.setCell ⟨hi,1,none⟩ vL') ws ps lo hi vW vL' (m + 1) ∧ w'.heap[hi]? = some (.cells #[vW,vL] 40 (0,0)):=by
 obtain ⟨h1,h2,h4,h5,h6,h7⟩:=h
 have hl:=fun k hk => (((h2.alloc o).alloc o').lt k hk).1
 have e1:zjn ws (ps.take (m + 1)) = zjn ws (ps.take m):=by rw [zbb ps m hm,zkl,hf]; rfl
 have e2:zgw (ps.take (m + 1)) = zgw (ps.take m) ++ [ps[m]]:=by rw [zbb ps m hm,zkj,hf]; rfl
 have keep:∀ k,k < hi + 1 → w'.heap[k]? = ((wr.alloc o).alloc o').heap[k]?:=fun k hk => hg.block k (by simp; omega) (fun e => by have:=hl k e.symm; omega)
 have l5:=(Array.getElem?_eq_some_iff.1 h5).1
 have a4:w'.heap[hi]? = some (.cells #[vW,vL] 40 (0,0)):=by rw [keep _ (by omega)]; exact zal (zal h4)
 refine ⟨⟨?_,?_,?_,?_,?_,?_⟩,a4⟩
 ·rw [e1]
  refine ((h1.alloc (by omega) o).alloc (by simp; omega) o').same (fun k hk1 hk => ?_)
  rw [Below.heap_setCell _ _ _ _ (by simp only; omega),keep k (by omega)]
 ·rw [e2,List.length_append,zoo]
  exact ((zai ho).same (w':=w'.setCell ⟨hi,1,none⟩ vL') (fun k hk _ => Below.heap_setCell _ _ _ _ (by simp only; omega))).1
 ·exact zgc a4 vL'
 ·rw [Below.heap_setCell _ _ _ _ (by simp only; omega),keep _ (by omega)]; exact zal (zal h5)
 ·exact (((h6.alloc h6.size o).alloc (by simp; have:=h6.size; omega) o').grown hg (by simp; have:=h6.size; omega) (fun k hk => by have:=hl k hk; omega)).setCell (by simp only; omega) _
 ·have:=hg.size; simp at this; simp; omega
theorem RdS.head {w:World} {q:Value} {ps:List St} {m:Nat} (h:RdS w q (ps.drop m)) (hm:m < ps.length):∃ b o cap,q = .slice (some ⟨b,o,none⟩) (ps.length - m) cap ∧ ps.length - m ≤ cap ∧ b < w.heap.size ∧ w.cell? ⟨b,o,none⟩ = some (.int .i64 ps[m].at_) ∧ w.cell? ⟨b,o + 1,none⟩ = some (.int .i64 ps[m].val) ∧ w.cell? ⟨b,o + 2,none⟩ = some (.bool ps[m].fl):=by
 have hdl:(ps.drop m).length = ps.length - m:=by simp
 obtain ⟨aq,cq,eq,hcq,hcells⟩:=h.shape
 obtain ⟨b,o,rfl,hbl,hcell⟩:=hcells (by omega)
 obtain ⟨e0,e1,e2⟩:=hcell 0 (by omega)
 simp only [Nat.zero_mul,Nat.add_zero,List.getElem_drop] at e0 e1 e2
 exact ⟨b,o,cq,by rw [← hdl]; exact eq,by omega,hbl,e0,e1,e2⟩
theorem RdS.next {w:World} {ps:List St} {m:Nat} {b o cap:Nat} (h:RdS w (.slice (some ⟨b,o,none⟩) (ps.length - m) cap) (ps.drop m)) (hm:m < ps.length) {ao:Option Addr} (h1:¬ cap = 1 → ao = some ⟨b,o + 3,none⟩) (h2:ao ≠ none) {n c:Nat} (hn:n = ps.length - m - 1) (hc:c = cap - 1):RdS w (.slice ao n c) (ps.drop (m + 1)):=by
 obtain ⟨_,ao',cap',e,⟨hle,_⟩,hcell⟩:=h
 have hdl:(ps.drop m).length = ps.length - m:=by simp
 simp only [Value.slice.injEq] at e
 obtain ⟨rfl,e1,rfl⟩:=e
 have hdl':(ps.drop (m + 1)).length = n:=by simp; omega
 refine ⟨zmd _,ao,c,by rw [hdl'],⟨by rw [hdl']; omega,fun e => absurd e h2⟩,fun hpos => ?_⟩
 rw [hdl'] at hpos
 obtain ⟨b',o',e2,hb,hcl⟩:=hcell (by omega)
 cases e2
 refine ⟨b,o + 3,h1 (by omega),hb,fun j hj => ?_⟩
 have hx:sts (ps.drop m) = St.cells ps[m] ++ sts (ps.drop (m + 1)):=by
  show (ps.drop m).flatMap St.cells = St.cells ps[m] ++ (ps.drop (m + 1)).flatMap St.cells
  rw [List.drop_eq_getElem_cons hm,List.flatMap_cons]
 have:=hcl (3 + j) (by omega)
 rw [hx,List.getElem?_append_right (by rw [St.cells_len]; omega),St.cells_len,Nat.add_sub_cancel_left] at this
 rw [Nat.add_assoc]
 exact this
set_option maxHeartbeats 4000000 in
theorem zot (v:Value) (ws:List Int) (ps:List St) (w:World) (h:RdPm w v ws ps) (hw:ws.length ≤ 1048576) (hp:ps.length ≤ 1048576) :
  Calls Tryz.prog 149 #[v] w fun e w' => ∃ v',e = .returned (.tuple #[v',.int .i64 (zng ws ps)]) ∧ RowPm w' w.heap.size w'.heap.size v' (zdo ws ps) (zdm ws ps) ∧ Below w.heap.size w w':=by
 have HR:=zaa h
 obtain ⟨vW,vP,rfl,h1,h2⟩:=h
 have H1:=zaa h1
 have H2:=zaa h2
 obtain ⟨aW,cW,rfl,_⟩:=h1.shape
 obtain ⟨aP,cP,rfl,_⟩:=h2.shape
 clear h1 h2
 have hb0:Below w.heap.size w ((w.alloc (.cells #[.slice aW ws.length cW,.slice aP ps.length cP] 40)).alloc (.cells #[.slice none 0 0,.slice none 0 0] 40)):=by
  repeat (refine Below.alloc ?_ (by simp <;> omega) _)
  exact Below.refl _ _
 by_cases hc:pmB ws ps = true
 ·obtain ⟨e1,e2,e3⟩:=yapz hc
  rw [e1,e2,e3]
  clear e1 e2 e3
  have OK:=zaa (yakv hc)
  go_enter Tryz.func149,Tryz.ntmps149
  go_wp2_with fail
  refine (zaz _ ws ps _ (HR.out.below hb0) hw hp).mono ?_
  rintro e w1 ⟨rfl,hb1⟩
  have hz1:w.heap.size + 2 ≤ w1.heap.size:=by have:=hb1.size; simp at this; omega
  have V0:=(hb1.block w.heap.size (by simp <;> omega)).trans (zal (zag rfl))
  have V1:=(hb1.block (w.heap.size + 1) (by simp)).trans (zag (by simp))
  obtain ⟨x1,x2,x3,x4⟩:=zad V0
  have B1:=zaa (zab hb0 hb1 (by simp <;> omega))
  have VH:=zaa (And.intro V0 V1)
  clear hb0 hb1 V0 V1
  go_wp2_with (at_builtin; refine zak _ rfl (.const (.slice none 0 0)) (.tmp 12) 22 rfl w1.heap.size 3 (.int .i64 0) 1 8 Tryz.underlying22 zga rfl (by decide) _ 0 [] rfl (World.ownsRow_nil _ _ _ _) _ ws.length (zav ws) rfl (Rd.below H1.out B1.out) (zed ws) (by simp [maxLen]; omega) (by omega) (Nat.le_refl _) ?_)
  intro v2 w2 hown2 hgr2
  have hown2:w2.ownsRow w1.heap.size 3 1 v2 ws.length (zav ws):=by simpa using hown2
  obtain ⟨aW2,cW2,rfl⟩:=RdI.form (zai hown2).rd rfl
  have hz2:w1.heap.size ≤ w2.heap.size:=hgr2.size
  have B2:=B1.out.grown hgr2 (by omega) (fun k hk => by cases hk)
  have V0:=(hgr2.block w.heap.size (by omega) (by simp [Value.ownBlock])).trans VH.out.1
  have V1:=(hgr2.block (w.heap.size + 1) (by omega) (by simp [Value.ownBlock])).trans VH.out.2
  have INV:Hid (FenInvI w (w2.alloc (.cells #[.slice aW2 ws.length cW2,.slice none 0 0] 40)) ws ps w1.heap.size w2.heap.size (.slice aW2 ws.length cW2) (.slice none 0 0) 0) :=
   ⟨(zai hown2).alloc (Nat.le_refl _) _,World.ownsRow_nil _ _ _ _,zag rfl,zal V1,B2.alloc (by omega) _,by simp⟩
  obtain ⟨z1,z2,z3,z4⟩:=zad (zal (o:=.cells #[.slice aW2 ws.length cW2,.slice none 0 0] 40) V0)
  clear x1 x2 x3 x4 hown2 hgr2 B2 V0 V1
  go_wp2
  go_loopw [5,6] (fun q _ wr => ∃ m:Nat,m ≤ ps.length ∧ RdS w q (ps.drop m) ∧ ∃ vL,Hid (FenInvI w wr ws ps w1.heap.size w2.heap.size (.slice aW2 ws.length cW2) vL m)) (fun q _ _ => match q with | .slice _ n _ => n | _ => 0)
  case atStart => exact ⟨0,by omega,by simpa using H2.out,_,INV⟩
  case round =>
   obtain ⟨m,hm,hq,vL,I⟩:=hrel
   obtain ⟨y1,y2,y3,y4⟩:=zad I.out.aft
   by_cases hlt:m < ps.length
   ·obtain ⟨b,o,cq,rfl,hcq,hbl,e0,e1,e2⟩:=hq.head hlt
    have d0:=(I.out.below.cell (p:=⟨b,o,none⟩) hbl).trans e0
    have d1:=(I.out.below.cell (p:=⟨b,o + 1,none⟩) hbl).trans e1
    have d2:=(I.out.below.cell (p:=⟨b,o + 2,none⟩) hbl).trans e2
    have Q:=zaa hq
    have hsz:=I.out.size
    obtain ⟨q0,q1⟩:=OK.out m hlt
    clear hq e0 e1 e2
    cases hf:ps[m].fl
    ·rw [hf] at d2
     have ec:St.cells ⟨ps[m].at_,ps[m].val,false⟩ = St.cells ps[m]:=by simp [St.cells,hf]
     have hr:=yaql (wr.alloc (.cells #[.int .i64 ps[m].at_,.int .i64 ps[m].val,.bool false] 153)) ps[m].at_ ps[m].val false
     simp only [World.size_alloc] at hr
     have HRD:=zaa hr
     have HOW:=zaa ((I.out.left.alloc (.cells #[.int .i64 ps[m].at_,.int .i64 ps[m].val,.bool false] 153)).alloc (.cells #[.int .i64 ps[m].at_,.int .i64 ps[m].val,.bool false] 153))
     have hfl:=yakw (ps.take m)
     rw [List.length_take] at hfl
     have EC:=zaa ec
     have HF:=zaa hf
     have HS:=zaa hsz
     obtain ⟨s1,s2,_,_⟩:=zad (zal (o:=.cells #[.int .i64 ps[m].at_,.int .i64 ps[m].val,.bool false] 153) I.out.aft)
     obtain ⟨aL,cL,hvL⟩:=RdS.form (zai I.out.left).rd rfl
     subst hvL
     clear hr ec hf hsz
     go_wp2_with (at_builtin; refine zak _ rfl (.tmp 35) (.tmp 37) 38 rfl (w2.heap.size + 1) 153 (.agg #[.int .i64 0,.int .i64 0,.bool false]) 3 24 Tryz.underlying38 zky rfl (by decide) _ _ _ rfl HOW.out _ 1 (St.cells ⟨ps[m].at_,ps[m].val,false⟩) rfl HRD.out (zxs _) (by simp [maxLen]; omega) (by omega) (by have:=HS.out; simp; omega) ?_)
     intro vN wN hownN hgrN
     obtain ⟨iN,aN⟩:=I.out.miss hlt HF.out hz1 hz2 _ _ (by rw [← EC.out]; exact hownN) hgrN
     obtain ⟨aN',cN',eN⟩:∃ ao cap,vN = .slice ao ((zgw (ps.take m)).length + 1) cap:=by
      obtain ⟨_,ao,cap,e,_⟩:=(zai hownN).rd
      exact ⟨ao,cap,e⟩
     subst eN
     have I1:=zaa iN
     obtain ⟨n1,n2,n3,n4⟩:=zad aN
     clear hownN hgrN iN aN
     go_wp2
     go_roundw
     case rel => exact ⟨m + 1,by omega,Q.out.next hlt (fun h => if_neg h) (by split <;> simp) rfl rfl,_,I1⟩
     case measure => show ps.length - m - 1 < ps.length - m; omega
    ·rw [hf] at d2
     obtain ⟨_,aw',cw',ew',_,hcw⟩:=I.out.words.rd
     cases ew'
     obtain ⟨bw,ow,rfl,hblw,_⟩:=hcw (by omega)
     obtain ⟨rfl,_,_,_,hfrw,hclw⟩:=(I.out.words.alloc (by omega) (.cells #[.int .i64 ps[m].at_,.int .i64 ps[m].val,.bool true] 153)).at
     have hj:ps[m].at_.toNat < (zjn ws (ps.take m)).length:=by rw [zip]; omega
     have g0:=hfrw ps[m].at_.toNat
     have g1:=(hclw ps[m].at_.toNat (by omega)).trans (zax _ _ hj)
     have I1:=zaa (I.out.hit hlt hf hz1 (.cells #[.int .i64 ps[m].at_,.int .i64 ps[m].val,.bool true] 153) rfl)
     obtain ⟨s1,s2,_,_⟩:=zad (zal (o:=.cells #[.int .i64 ps[m].at_,.int .i64 ps[m].val,.bool true] 153) I.out.aft)
     clear hcw hfrw hclw
     go_wp2
     go_roundw
     case rel => exact ⟨m + 1,by omega,Q.out.next hlt (fun h => if_neg h) (by split <;> simp) rfl rfl,_,I1⟩
     case measure => show ps.length - m - 1 < ps.length - m; omega
   ·have e:m = ps.length:=by omega
    subst e
    obtain ⟨aq,cq,eq⟩:=hq.form (n:=0) (by simp)
    subst eq
    obtain ⟨aL,cL,hvL⟩:=RdS.form (zai I.out.left).rd (n:=(zgw ps).length) (by rw [List.take_length])
    subst hvL
    obtain ⟨t1,t2,t3,t4⟩:=zad I.out.res
    have hsz:=I.out.size
    clear hq
    go_wp2
    have I2:=I.out
    refine bodyPost_ret (v:=.tuple #[.agg #[.slice aW2 ws.length cW2,.slice aL (zgw ps).length cL],.int .i64 0]) (by simp [results,Tryz.results149,go_sem,t1,t2]) rfl ?_
    refine ⟨_,rfl,⟨_,_,rfl,?_,?_⟩,(I2.below.setCell (by simp only; omega) _).setCell (by simp only; omega) _⟩
    ·rw [zip]
     have:=I2.words
     rw [List.take_length] at this
     refine (this.same fun b h1 h2 => ?_).wide (by omega) (by simp; omega)
     rw [Below.heap_setCell _ _ _ _ (by simp only; omega),Below.heap_setCell _ _ _ _ (by simp only; omega)]
    ·have:=zai I2.left
     rw [List.take_length] at this
     refine (this.same fun b h1 h2 => ?_).wide (by omega) (by simp)
     rw [Below.heap_setCell _ _ _ _ (by simp only; omega),Below.heap_setCell _ _ _ _ (by simp only; omega)]
 ·have hc':pmB ws ps = false:=by simpa using hc
  clear hc
  obtain ⟨e1,e2,e3⟩:=yamj hc'
  rw [e1,e2,e3]
  clear e1 e2 e3
  go_enter Tryz.func149,Tryz.ntmps149
  go_wp2_with fail
  refine (zaz _ ws ps _ (HR.out.below hb0) hw hp).mono ?_
  rintro e w1 ⟨rfl,hb1⟩
  have V1:=(hb1.block (w.heap.size + 1) (by simp)).trans (zag (by simp))
  obtain ⟨t1,t2,t3,t4⟩:=zad V1
  have B1:=zaa (zab hb0 hb1 (by simp <;> omega))
  clear hb0 hb1 V1
  go_wp2
  refine bodyPost_ret (v:=.tuple #[.agg #[.slice none 0 0,.slice none 0 0],.int .i64 1]) (by simp [results,Tryz.results149,go_sem,t1,t2]) rfl ?_
  exact ⟨_,rfl,RowPm.zero _ _ _,(B1.out.setCell (by simp only; omega) _).setCell (by simp only; omega) _⟩
end Go.Proofs.YtlkmnpanddchdaaGreatDoor
