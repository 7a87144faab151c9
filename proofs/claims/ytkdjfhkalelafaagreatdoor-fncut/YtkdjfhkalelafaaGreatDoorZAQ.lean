/- Several texts laid together: PmFlush, PmFence, OpenA, AtE, MiS, JrD, JrM, MiL. -/
import Derived.Test.YtkdjfhkalelafaaGreatDoorZAP
import Derived.Test.YtkdjfhkalelafaaGreatDoorZAA
import Derived.ProofKit
import Derived.OpenShut
import Derived.ShutString
import Derived.ChangeOld
import Derived.Lib.SmallJoins
import Derived.Deep.Slices
import Derived.Deep.Strs
import Derived.Test.YtkdjfhkalelafaaGreatDoorZAC
import Derived.Test.YtkdjfhkalelafaaGreatDoorZAN
import Derived.Test.YtkdjfhkalelafaaGreatDoorZAM
import Derived.Deep.RegionWith
import Derived.BigRegion
import Derived.Deep.DeepCutAuto
namespace Go.Proofs.YtkdjfhkalelafaaGreatDoor
open Go.RowKit
theorem yagb (l:List St) (j:Nat) (hj:j / 3 < l.length):(sts l)[j]? = (l[j / 3]).cells[j % 3]?:=by
 have:=zbo St.cells 3 St.cells_len l (j / 3) (j % 3) hj (Nat.mod_lt _ (by decide))
 rw [show j / 3 * 3 + j % 3 = j from by omega] at this
 exact this
theorem yala (l:List St) (m:Nat) (hm:m < l.length) (b:Bool):(sts l).set (m * 3 + 2) (.bool b) = sts (l.set m ⟨l[m].at_,l[m].val,b⟩):=by
 apply List.ext_getElem?
 intro j
 by_cases hj:j < l.length * 3
 ·have h3:j / 3 < l.length:=by omega
  have h3':j / 3 < (l.set m ⟨l[m].at_,l[m].val,b⟩).length:=by simpa using h3
  rw [yajf (by rw [zxo]; exact hj),yagb _ j h3',yagb l j h3,List.getElem_set]
  by_cases e:m = j / 3
  ·rw [if_pos e]
   subst e
   rcases (show j % 3 = 0 ∨ j % 3 = 1 ∨ j % 3 = 2 from by omega) with r | r | r
   ·rw [if_neg (by omega),r]; rfl
   ·rw [if_neg (by omega),r]; rfl
   ·rw [if_pos (by omega),r]; rfl
  ·rw [if_neg e,if_neg (by omega)]
 ·rw [List.getElem?_eq_none (by rw [List.length_set,zxo]; omega),List.getElem?_eq_none (by rw [zxo,List.length_set]; omega)]
def fl1 (k:Int) (p:St):St:=if p.at_ / 8 = k / 8 then ⟨p.at_,p.val,true⟩ else p
def mix (k:Int) (ps:List St) (m:Nat):List St:=(ps.take m).map (fl1 k) ++ ps.drop m
theorem zxm (k:Int) (ps:List St) (m:Nat) (hm:m ≤ ps.length):(mix k ps m).length = ps.length:=by simp [mix]; omega
theorem yaot (k:Int) (ps:List St):mix k ps 0 = ps:=by simp [mix]
theorem yarm (k:Int) (ps:List St):mix k ps ps.length = ps.map (fl1 k):=by simp [mix]
theorem yajh (k:Int) (ps:List St) (m:Nat) (hm:m < ps.length) (h:m < (mix k ps m).length):(mix k ps m)[m] = ps[m]:=by
 have e:(mix k ps m)[m]? = ps[m]?:=by
  unfold mix
  rw [List.getElem?_append_right (by rw [List.length_map,List.length_take]; omega)]
  simp [Nat.min_eq_left (Nat.le_of_lt hm)]
 rw [List.getElem?_eq_getElem h,List.getElem?_eq_getElem hm] at e
 exact Option.some.inj e
theorem yabh (k:Int) (ps:List St) (m:Nat) (hm:m < ps.length):mix k ps (m + 1) = (mix k ps m).set m (fl1 k ps[m]):=by
 unfold mix
 rw [List.take_succ_eq_append_getElem hm,List.map_append,List.set_append_right _ _ (by rw [List.length_map,List.length_take]; omega)]
 simp only [List.map_cons,List.map_nil,List.length_map,List.length_take,Nat.min_eq_left (Nat.le_of_lt hm),Nat.sub_self]
 rw [List.drop_eq_getElem_cons hm,List.set_cons_zero,List.append_assoc]
 rfl
theorem yarp {k:Int} {ps:List St} {m:Nat} (hm:m < ps.length) (h:ps[m].at_ / 8 = k / 8):(sts (mix k ps m)).set (m * 3 + 2) (.bool true) = sts (mix k ps (m + 1)):=by
 have hl:m < (mix k ps m).length:=by rw [zxm _ _ _ (by omega)]; exact hm
 rw [yala _ m hl,yabh k ps m hm,yajh k ps m hm hl]
 unfold fl1
 rw [if_pos h]
theorem yaos {k:Int} {ps:List St} {m:Nat} (hm:m < ps.length) (h:¬ ps[m].at_ / 8 = k / 8):mix k ps (m + 1) = mix k ps m:=by
 have hl:m < (mix k ps m).length:=by rw [zxm _ _ _ (by omega)]; exact hm
 rw [yabh k ps m hm]
 unfold fl1
 rw [if_neg h]
 have:=yajh k ps m hm hl
 rw [← this,List.set_getElem_self]
set_option maxHeartbeats 4000000 in
theorem zvu (v:Value) (ws:List Int) (ps:List St) (k:Nat) (w:World) (h:RdPm w v ws ps) (hp:ps.length ≤ 1048576) (hk:k < 336) (hok:∀ j (h:j < ps.length),0 ≤ ps[j].at_ ∧ ps[j].at_ < 336) :
  Calls Tryz.prog 166 #[v,.int .i64 (k:Int)] w fun e w' => ∃ v',e = .returned v' ∧ RdPm w' v' ws (ps.map (fl1 (k:Int))) ∧ Below w.heap.size w w':=by
 obtain ⟨vW,vP,rfl,h1,h2⟩:=h
 have H1:=zaa h1
 have H2:=zaa h2
 have HOK:=zaa hok
 obtain ⟨aW,cW,rfl,_⟩:=h1.shape
 obtain ⟨aP,cP,rfl,_⟩:=h2.shape
 clear h1 h2 hok
 have hb0:Below w.heap.size w (((w.alloc (.cells #[.slice aW ws.length cW,.slice aP ps.length cP] 26)).alloc (.cells #[.slice none 0 0,.slice none 0 0] 26)).alloc (.cells #[] 114)):=by
  repeat (refine Below.alloc ?_ (by simp <;> omega) _)
  exact Below.refl _ _
 have ho0:(((w.alloc (.cells #[.slice aW ws.length cW,.slice aP ps.length cP] 26)).alloc (.cells #[.slice none 0 0,.slice none 0 0] 26)).alloc (.cells #[] 114)).ownsRow (w.heap.size + 2) 114 3 (.slice (some ⟨w.heap.size + 1 + 1,0,none⟩) 0 0) 0 []:=by
  simpa using World.ownsRow_lit (base:=w.heap.size + 2) (e:=114) (size:=3) ((w.alloc (.cells #[.slice aW ws.length cW,.slice aP ps.length cP] 26)).alloc (.cells #[.slice none 0 0,.slice none 0 0] 26)) #[] 0 (by simp) (by simp) rfl
 have HO:=zaa ho0
 have HB:=zaa hb0
 clear ho0 hb0
 go_enter Tryz.func166,Tryz.ntmps166
 go_wp2_with (at_builtin; refine zae _ rfl (.tmp 6) (.tmp 8) 24 rfl (w.heap.size + 2) 114 (.agg #[.int .i64 0,.int .i64 0,.bool false]) 3 24 Tryz.underlying24 zqp rfl (by decide) _ 0 [] rfl HO.out _ ps.length (sts ps) rfl (Rd.below H2.out HB.out) (zrj ps) (by simp [maxLen]; omega) (by omega) (by simp) ?_)
 intro v1 w1 hown1 hgr1
 have hown1:w1.ownsRow (w.heap.size + 2) 114 3 v1 ps.length (sts ps):=by simpa using hown1
 obtain ⟨a1,c1,rfl⟩:=RdS.form (zad hown1).rd rfl
 have hz1:w.heap.size + 3 ≤ w1.heap.size:=by have:=hgr1.size; simp at this; omega
 have V0:=(hgr1.block w.heap.size (by simp <;> omega) (by simp [Value.ownBlock] <;> omega)).trans (zak (zak (zah rfl)))
 have V1:=(hgr1.block (w.heap.size + 1) (by simp <;> omega) (by simp [Value.ownBlock] <;> omega)).trans (zak (zah (by simp)))
 have B1:=HB.out.grown hgr1 (by simp <;> omega) (fun k hk => by simp [Value.ownBlock] at hk; omega)
 obtain ⟨x1,x2,x3,x4⟩:=zac V0
 have RH:Hid (Row (w1.setCell ⟨w.heap.size,1,none⟩ (.slice a1 ps.length c1)) 114 3 (w.heap.size + 2) w1.heap.size (.slice a1 ps.length c1) ps.length (sts ps)):=(zad hown1).same (fun b h1 _ => Below.heap_setCell _ _ _ _ (by simp only; omega))
 have VH:=zaa (And.intro (zru V0 (.slice a1 ps.length c1)) ((Below.heap_setCell w1 ⟨w.heap.size,1,none⟩ (.slice a1 ps.length c1) (w.heap.size + 1) (by simp)).trans V1))
 have BH:=zaa (B1.setCell (p:=⟨w.heap.size,1,none⟩) (Nat.le_refl _) (.slice a1 ps.length c1))
 clear hown1 hgr1 V0 V1 B1
 go_wp2
 go_loopw [5] (fun i wr => ∃ m:Nat,m ≤ ps.length ∧ i = .int .i64 m ∧ Row wr 114 3 (w.heap.size + 2) w1.heap.size (.slice a1 ps.length c1) ps.length (sts (mix (k:Int) ps m)) ∧ (wr.heap[w.heap.size]? = some (.cells #[.slice aW ws.length cW,.slice a1 ps.length c1] 26 (0,0)) ∧ wr.heap[w.heap.size + 1]? = some (.cells #[.slice none 0 0,.slice none 0 0] 26 (0,0))) ∧ Below w.heap.size w wr ∧ w1.heap.size ≤ wr.heap.size) (fun i _ => ps.length - (intOf i).toNat)
 case atStart => exact ⟨0,by omega,rfl,by rw [yaot]; exact RH.out,VH.out,BH.out,by simp⟩
 case round =>
  obtain ⟨m,hm,rfl,hrow,hv,hb,hz⟩:=hrel
  obtain ⟨y1,y2,y3,y4⟩:=zac hv.1
  by_cases hlt:m < ps.length
  ·have hl:=zxm (k:Int) ps m hm
   obtain ⟨_,ao',cap',e',_,hc⟩:=hrow.rd
   cases e'
   obtain ⟨b,o,rfl,hbl,_⟩:=hc (by omega)
   obtain ⟨rfl,hb1,hb2,_,hfr,hcl⟩:=hrow.at
   have hml:m < (mix (k:Int) ps m).length:=by omega
   have e0:=(hcl (m * 3) (by omega)).trans (zox _ m hml)
   have e2:=(hcl (m * 3 + 2) (by omega)).trans (zxt _ m hml)
   rw [yajh _ _ _ hlt hml] at e0 e2
   have f2:=hfr (m * 3 + 2)
   obtain ⟨q0,q1⟩:=HOK.out m hlt
   have ST:=zaa (hrow.stored (m * 3 + 2) (.bool true))
   have BH2:=zaa (hb.setCell (p:=⟨b,m * 3 + 2,none⟩) (by simp only; omega) (.bool true))
   have VH2:=zaa (And.intro ((Below.heap_setCell wr ⟨b,m * 3 + 2,none⟩ (.bool true) w.heap.size (by simp only; omega)).trans hv.1) ((Below.heap_setCell wr ⟨b,m * 3 + 2,none⟩ (.bool true) (w.heap.size + 1) (by simp only; omega)).trans hv.2))
   have RM:=zaa hrow
   have VM:=zaa hv
   clear hrow hc hfr hcl hv hl
   by_cases c:ps[m].at_ / 8 = (k:Int) / 8
   ·have c':(ps[m].at_ / 8 == (k:Int) / 8) = true:=by simpa using c
    have E:=zaa (yarp hlt c)
    clear c
    go_wp2
    go_roundw
    case rel => exact ⟨m + 1,by omega,by go_num,E.out ▸ ST.out,VH2.out,BH2.out,by simp; omega⟩
    case measure => simp [intOf]; omega
   ·have c':(ps[m].at_ / 8 == (k:Int) / 8) = false:=by simpa using c
    have E:=zaa (yaos hlt c)
    clear c
    go_wp2
    go_roundw
    case rel => exact ⟨m + 1,by omega,by go_num,E.out ▸ RM.out,VM.out,hb,hz⟩
    case measure => simp [intOf]; omega
  ·have e:m = ps.length:=by omega
   subst e
   obtain ⟨t1,t2,t3,t4⟩:=zac hv.2
   have RM:=zaa hrow
   clear hrow hv
   go_wp2
   refine bodyPost_ret (v:=.agg #[.slice aW ws.length cW,.slice a1 ps.length c1]) (by simp [results,Tryz.results166,go_sem,t1,t2]) rfl ?_
   have B3:=(hb.setCell (p:=⟨w.heap.size + 1,0,none⟩) (by simp only; omega) (.slice aW ws.length cW)).setCell (p:=⟨w.heap.size + 1,1,none⟩) (by simp only; omega) (.slice a1 ps.length c1)
   refine ⟨_,rfl,⟨_,_,rfl,Rd.below H1.out B3,?_⟩,B3⟩
   have R3:=(RM.out.same (w':=(wr.setCell ⟨w.heap.size + 1,0,none⟩ (.slice aW ws.length cW)).setCell ⟨w.heap.size + 1,1,none⟩ (.slice a1 ps.length c1)) (fun b h1 h2 => by rw [Below.heap_setCell _ _ _ _ (by simp only; omega),Below.heap_setCell _ _ _ _ (by simp only; omega)])).rd
   unfold RdS
   rw [yarm] at R3
   rw [List.length_map]
   exact R3
def zod (ws:List Int) (ps:List St):List Int:=ps.foldl (fun acc p => if p.fl then acc.set p.at_.toNat p.val else acc) ws
def zlx (ps:List St):List St:=ps.filter (fun p => !p.fl)
theorem zus (ws:List Int) (ps:List St) (p:St):zod ws (ps ++ [p]) = if p.fl then (zod ws ps).set p.at_.toNat p.val else zod ws ps:=by simp [zod]
theorem zmz (ws:List Int):∀ ps:List St,(zod ws ps).length = ws.length:=by
 intro ps
 unfold zod
 induction ps generalizing ws with
 | nil => rfl
 | cons p ps ih =>
  rw [List.foldl_cons,ih]
  split <;> simp
theorem zuo (ps:List St) (p:St):zlx (ps ++ [p]) = if p.fl then zlx ps else zlx ps ++ [p]:=by
 unfold zlx
 rw [List.filter_append]
 cases h:p.fl <;> simp [h]
theorem yarz (ps:List St):(zlx ps).length ≤ ps.length:=List.length_filter_le _ _
structure FenInv (w wr:World) (ws:List Int) (ps:List St) (lo hi:Nat) (vW vP vL:Value) (m:Nat):Prop where
 words:Row wr 3 1 lo hi vW ws.length (zdh (zod ws (ps.take m)))
 left:wr.ownsRow hi 114 3 vL (zlx (ps.take m)).length (sts (zlx (ps.take m)))
 pend:Row wr 114 3 lo hi vP ps.length (sts ps)
 box:wr.heap[w.heap.size]? = some (.cells #[vW,vP] 26 (0,0))
 res:wr.heap[w.heap.size + 1]? = some (.cells #[.slice none 0 0,.slice none 0 0] 26 (0,0))
 below:Below w.heap.size w wr
 size:hi ≤ wr.heap.size
theorem FenInv.hit {w wr:World} {ws:List Int} {ps:List St} {lo hi:Nat} {b n cap:Nat} {vP vL:Value} {m:Nat} (h:FenInv w wr ws ps lo hi (.slice (some ⟨b,0,none⟩) n cap) vP vL m) (hm:m < ps.length) (hf:ps[m].fl = true) (hlo:w.heap.size + 2 ≤ lo) (o:Obj) (hn:n = ws.length) :
  FenInv w ((wr.setCell ⟨b,ps[m].at_.toNat,none⟩ (.int .i64 ps[m].val)).alloc o) ws ps lo hi (.slice (some ⟨b,0,none⟩) n cap) vP vL (m + 1):=by
 subst hn
 obtain ⟨h1,h2,h3,h4,h5,h6,h7⟩:=h
 obtain ⟨_,hb1,hb2,_⟩:=h1.at
 have e1:zod ws (ps.take (m + 1)) = (zod ws (ps.take m)).set ps[m].at_.toNat ps[m].val:=by rw [zge ps m hm,zus,if_pos hf]
 have e2:zlx (ps.take (m + 1)) = zlx (ps.take m):=by rw [zge ps m hm,zuo,if_pos hf]
 refine ⟨?_,?_,?_,?_,?_,?_,?_⟩
 ·rw [e1,← zif]
  exact (h1.stored _ _).alloc (by simp; omega) o
 ·rw [e2]
  exact ((zad h2).same (w':=wr.setCell ⟨b,ps[m].at_.toNat,none⟩ (.int .i64 ps[m].val)) (fun k hk _ => Below.heap_setCell _ _ _ _ (by simp only; omega))).1.alloc o
 ·exact (h3.apart h1 (by decide) (World.ownsRow.stored h1.1 _ _).2).alloc (by simp; omega) o
 ·refine zak ?_
  rw [Below.heap_setCell _ _ _ _ (by simp only; omega)]; exact h4
 ·refine zak ?_
  rw [Below.heap_setCell _ _ _ _ (by simp only; omega)]; exact h5
 ·exact (h6.setCell (by simp only; omega) _).alloc (by simp; exact h6.size) o
 ·simp; omega
theorem FenInv.miss {w wr w':World} {ws:List Int} {ps:List St} {lo hi:Nat} {vW vP vL vL':Value} {m:Nat} (h:FenInv w wr ws ps lo hi vW vP vL m) (hm:m < ps.length) (hf:ps[m].fl = false) (hlo:w.heap.size + 2 ≤ lo) (hhi:lo ≤ hi) (o o':Obj)
  (ho:w'.ownsRow hi 114 3 vL' ((zlx (ps.take m)).length + 1) (sts (zlx (ps.take m)) ++ St.cells ps[m])) (hg:((wr.alloc o).alloc o').grownBy w' vL.ownBlock):FenInv w w' ws ps lo hi vW vP vL' (m + 1):=by
 obtain ⟨h1,h2,h3,h4,h5,h6,h7⟩:=h
 have hl:=fun k hk => (((h2.alloc o).alloc o').lt k hk).1
 have e1:zod ws (ps.take (m + 1)) = zod ws (ps.take m):=by rw [zge ps m hm,zus,hf]; rfl
 have e2:zlx (ps.take (m + 1)) = zlx (ps.take m) ++ [ps[m]]:=by rw [zge ps m hm,zuo,hf]; rfl
 have keep:∀ k,k < hi → w'.heap[k]? = ((wr.alloc o).alloc o').heap[k]?:=fun k hk => hg.block k (by simp; omega) (fun e => by have:=hl k e.symm; omega)
 have l4:=(Array.getElem?_eq_some_iff.1 h4).1
 refine ⟨?_,?_,?_,?_,?_,?_,?_⟩
 ·rw [e1]
  exact ((h1.alloc h7 o).alloc (by simp; omega) o').same (fun k _ hk => keep k hk)
 ·rw [e2,List.length_append,zzs]; exact ho
 ·exact ((h3.alloc h7 o).alloc (by simp; omega) o').same (fun k _ hk => keep k hk)
 ·rw [keep _ (by omega)]; exact zak (zak h4)
 ·rw [keep _ (by omega)]; exact zak (zak h5)
 ·exact ((h6.alloc h6.size o).alloc (by simp; have:=h6.size; omega) o').grown hg (by simp; have:=h6.size; omega) (fun k hk => by have:=hl k hk; omega)
 ·have:=hg.size; simp at this; omega
set_option maxHeartbeats 4000000 in
theorem zuj (v:Value) (ws:List Int) (ps:List St) (w:World) (h:RdPm w v ws ps) (hw:ws.length ≤ 1048576) (hp:ps.length ≤ 1048576) (hok:∀ j (h:j < ps.length),0 ≤ ps[j].at_ ∧ ps[j].at_ < ws.length) :
  Calls Tryz.prog 167 #[v] w fun e w' => ∃ v',e = .returned v' ∧ RowPm w' w.heap.size w'.heap.size v' (zod ws ps) (zlx ps) ∧ Below w.heap.size w w':=by
 have HR:=zaa h
 obtain ⟨vW,vP,rfl,h1,h2⟩:=h
 obtain ⟨aW,cW,rfl,_⟩:=h1.shape
 obtain ⟨aP,cP,rfl,_⟩:=h2.shape
 have HOK:=zaa hok
 clear h1 h2 hok
 have hb0:Below w.heap.size w ((w.alloc (.cells #[.slice aW ws.length cW,.slice aP ps.length cP] 26)).alloc (.cells #[.slice none 0 0,.slice none 0 0] 26)):=by
  repeat (refine Below.alloc ?_ (by simp <;> omega) _)
  exact Below.refl _ _
 go_enter Tryz.func167,Tryz.ntmps167
 go_wp2_with fail
 refine (zqh _ ws ps _ (HR.out.below hb0) (by omega) (by omega)).mono ?_
 rintro e w2 ⟨v2,rfl,hr2,hb2⟩
 obtain ⟨vW2,vP2,rfl,hI2,hS2⟩:=hr2
 obtain ⟨aW2,cW2,rfl⟩:=RdI.form hI2.rd rfl
 obtain ⟨aP2,cP2,rfl⟩:=RdS.form hS2.rd rfl
 simp only [World.size_alloc] at hI2 hS2
 have hz2:w.heap.size + 2 ≤ w2.heap.size:=by have:=hb2.size; simp at this; omega
 have V0:=(hb2.block w.heap.size (by simp <;> omega)).trans (zak (zah rfl))
 have V1:=(hb2.block (w.heap.size + 1) (by simp)).trans (zah (by simp))
 have B2:=zab hb0 hb2 (by simp <;> omega)
 obtain ⟨x1,x2,x3,x4⟩:=zac V0
 have INV:Hid (FenInv w (((w2.setCell ⟨w.heap.size,0,none⟩ (.slice aW2 ws.length cW2)).setCell ⟨w.heap.size,1,none⟩ (.slice aP2 ps.length cP2)).alloc (.cells #[] 114)) ws ps (w.heap.size + 1 + 1) w2.heap.size (.slice aW2 ws.length cW2) (.slice aP2 ps.length cP2) (.slice (some ⟨w2.heap.size,0,none⟩) 0 0) 0):=by
  refine ⟨?_,?_,?_,?_,?_,?_,?_⟩
  ·refine ((hI2.same fun b hb1 _ => ?_).alloc (by simp) _)
   rw [Below.heap_setCell _ _ _ _ (by simp only; omega),Below.heap_setCell _ _ _ _ (by simp only; omega)]
  ·have:=World.ownsRow_lit (base:=w2.heap.size) (e:=114) (size:=3) ((w2.setCell ⟨w.heap.size,0,none⟩ (.slice aW2 ws.length cW2)).setCell ⟨w.heap.size,1,none⟩ (.slice aP2 ps.length cP2)) #[] 0 (by simp) (by simp) rfl
   simpa [zlx,sts] using this
  ·refine ((hS2.same fun b hb1 _ => ?_).alloc (by simp) _)
   rw [Below.heap_setCell _ _ _ _ (by simp only; omega),Below.heap_setCell _ _ _ _ (by simp only; omega)]
  ·exact zak (zru (zmn V0 _) _)
  ·refine zak ?_
   rw [Below.heap_setCell _ _ _ _ (by simp only; omega),Below.heap_setCell _ _ _ _ (by simp only; omega)]
   exact V1
  ·exact ((B2.setCell (by simp only; omega) _).setCell (by simp only; omega) _).alloc (by simp; omega) _
  ·simp
 clear hb0 hb2 hI2 hS2 V0 V1 B2
 go_wp2
 go_loopw [3,4,5] (fun vL i _ wr => ∃ m:Nat,m ≤ ps.length ∧ i = .int .i64 m ∧ Hid (FenInv w wr ws ps (w.heap.size + 1 + 1) w2.heap.size (.slice aW2 ws.length cW2) (.slice aP2 ps.length cP2) vL m)) (fun _ i _ _ => ps.length - (intOf i).toNat)
 case atStart => exact ⟨0,by omega,rfl,INV⟩
 case round =>
  obtain ⟨m,hm,rfl,I⟩:=hrel
  obtain ⟨y1,y2,y3,y4⟩:=zac I.out.box
  by_cases hlt:m < ps.length
  ·obtain ⟨_,ao',cap',e',_,hc⟩:=I.out.pend.rd
   cases e'
   obtain ⟨b,o,rfl,hbl,_⟩:=hc (by omega)
   obtain ⟨rfl,_,_,_,hfr,hcl⟩:=I.out.pend.at
   have e0:=(hcl (m * 3) (by omega)).trans (zox _ m hlt)
   have e1:=(hcl (m * 3 + 1) (by omega)).trans (yajt _ m hlt)
   have e2:=(hcl (m * 3 + 2) (by omega)).trans (zxt _ m hlt)
   obtain ⟨q0,q1⟩:=HOK.out m hlt
   have hsz:=I.out.size
   clear hc hfr hcl
   cases hf:ps[m].fl
   ·rw [hf] at e2
    have ec:St.cells ⟨ps[m].at_,ps[m].val,false⟩ = St.cells ps[m]:=by simp [St.cells,hf]
    have hr:=yatu (wr.alloc (.cells #[.int .i64 ps[m].at_,.int .i64 ps[m].val,.bool false] 114)) ps[m].at_ ps[m].val false
    simp only [World.size_alloc] at hr
    have HRD:=zaa hr
    have HOW:=zaa ((I.out.left.alloc (.cells #[.int .i64 ps[m].at_,.int .i64 ps[m].val,.bool false] 114)).alloc (.cells #[.int .i64 ps[m].at_,.int .i64 ps[m].val,.bool false] 114))
    have hfl:=yarz (ps.take m)
    rw [List.length_take] at hfl
    have EC:=zaa ec
    have HF:=zaa hf
    have HS:=zaa hsz
    clear hr ec hf hsz
    go_wp2_with (at_builtin; refine zae _ rfl (.tmp 30) (.tmp 32) 24 rfl w2.heap.size 114 (.agg #[.int .i64 0,.int .i64 0,.bool false]) 3 24 Tryz.underlying24 zqp rfl (by decide) _ _ _ rfl HOW.out _ 1 (St.cells ⟨ps[m].at_,ps[m].val,false⟩) rfl HRD.out (yagr _) (by simp [maxLen]; omega) (by omega) (by have:=HS.out; simp; omega) ?_)
    intro vN wN hownN hgrN
    have I1:=zaa (I.out.miss hlt HF.out (Nat.le_refl _) hz2 _ _ (by rw [← EC.out]; exact hownN) hgrN)
    clear hownN hgrN
    go_wp2
    go_roundw
    case rel => exact ⟨m + 1,by omega,by go_num,I1⟩
    case measure => simp [intOf]; omega
   ·rw [hf] at e2
    obtain ⟨_,aw',cw',ew',_,hcw⟩:=I.out.words.rd
    cases ew'
    obtain ⟨bw,ow,rfl,hblw,_⟩:=hcw (by omega)
    obtain ⟨rfl,_,_,_,hfrw,hclw⟩:=(I.out.words.alloc hsz (.cells #[.int .i64 ps[m].at_,.int .i64 ps[m].val,.bool true] 114)).at
    have hj:ps[m].at_.toNat < (zod ws (ps.take m)).length:=by rw [zmz]; omega
    have g0:=hfrw ps[m].at_.toNat
    have g1:=(hclw ps[m].at_.toNat (by omega)).trans (zcu _ _ hj)
    have I1:=zaa (I.out.hit hlt hf (Nat.le_refl _) (.cells #[.int .i64 ps[m].at_,.int .i64 ps[m].val,.bool true] 114) rfl)
    obtain ⟨z1,z2,_,_⟩:=zac (zak (o:=.cells #[.int .i64 ps[m].at_,.int .i64 ps[m].val,.bool true] 114) I.out.box)
    clear hcw hfrw hclw
    go_wp2
    go_roundw
    case rel => exact ⟨m + 1,by omega,by go_num,I1⟩
    case measure => simp [intOf]; omega
  ·have e:m = ps.length:=by omega
   subst e
   obtain ⟨aL,cL,hvL⟩:=RdS.form (zad I.out.left).rd (n:=(zlx ps).length) (by rw [List.take_length])
   subst hvL
   obtain ⟨t1,t2,t3,t4⟩:=zac I.out.res
   have hsz:=I.out.size
   go_wp2
   have I2:=I.out
   refine bodyPost_ret (v:=.agg #[.slice aW2 ws.length cW2,.slice aL (zlx ps).length cL]) (by simp [results,Tryz.results167,go_sem,t1,t2]) rfl ?_
   refine ⟨_,rfl,⟨_,_,rfl,?_,?_⟩,((I2.below.setCell (by simp only; omega) _).setCell (by simp only; omega) _).setCell (by simp only; omega) _⟩
   ·rw [zmz]
    have:=I2.words
    rw [List.take_length] at this
    refine (this.same fun b h1 h2 => ?_).wide (by omega) (by simp; omega)
    rw [Below.heap_setCell _ _ _ _ (by simp only; omega),Below.heap_setCell _ _ _ _ (by simp only; omega),Below.heap_setCell _ _ _ _ (by simp only; omega)]
   ·have:=zad I2.left
    rw [List.take_length] at this
    refine (this.same fun b h1 h2 => ?_).wide (by omega) (by simp)
    rw [Below.heap_setCell _ _ _ _ (by simp only; omega),Below.heap_setCell _ _ _ _ (by simp only; omega),Below.heap_setCell _ _ _ _ (by simp only; omega)]
end Go.Proofs.YtkdjfhkalelafaaGreatDoor

namespace Go.Proofs.YtkdjfhkalelafaaGreatDoor
open Go.ChangeShapes Go.WideShapes Go.ChangeAt Go.RowKit Go.Joins
theorem own:ownKnob Tryz.prog.godebug = none:=by kernel_rfl
theorem zot:laidOutB Tryz.prog = true:=by kernel_rfl
theorem yabd:Tryz.prog.cellsOf 3 = 1:=by kernel_rfl
section
variable {H:Type} {enc:TypeId × Value → H} {W:World} {sp:Nat → Bool} {held:Bool} {fuel:Nat} {v:Value} {y:DataW H × List MemPlace}
end
end Go.Proofs.YtkdjfhkalelafaaGreatDoor

namespace Go.Proofs.YtkdjfhkalelafaaGreatDoor
open Go.ChangeShapes Go.WideShapes Go.ChangeAt Go.RowKit Go.Joins
theorem Below.drewN'' {B:Nat} {a w:World} (h:Below B a w) (n:Nat):Below B a (w.drewN n):=by
 induction n with
 | zero => exact h
 | succ n ih => exact ⟨ih.os,ih.tape,ih.output,ih.size,ih.block⟩
def atX (bs:List Int) (i:Int):Int:=bs[(i % (bs.length:Int)).toNat]?.getD 0
def atV (bs:List Int) (i n:Int):Int:=if bs.length = 0 then i * 7 % n else (atX bs i * 31 + atX bs (i + 1) + i / (bs.length:Int)) % n
theorem yaxr (bs:List Int) (i n:Int) (h:2 ≤ n):0 ≤ atV bs i n ∧ atV bs i n < n:=by
 unfold atV
 split
 ·exact ⟨Int.emod_nonneg _ (by omega),Int.emod_lt_of_pos _ (by omega)⟩
 ·exact ⟨Int.emod_nonneg _ (by omega),Int.emod_lt_of_pos _ (by omega)⟩
set_option maxRecDepth 100000 in
set_option maxHeartbeats 8000000 in
theorem yawg (v:Value) (bs:List Int) (i n:Int) (w:World) (h:RdB w v bs) (hl:bs.length ≤ 1048576) (h0:0 ≤ i) (h1:i ≤ 9) (hn:2 ≤ n) (hn2:n ≤ 100000) :
  Calls Tryz.prog 14 #[v,.int .i64 i,.int .i64 n] w fun e w' => e = .returned (.int .i64 (atV bs i n)) ∧ Below w.heap.size w w':=by
 obtain ⟨aC,cC,rfl,_,hc⟩:=h.shape
 by_cases c:bs.length = 0
 ·have c':((bs.length:Int) == 0) = true:=by simp [c]
  have E:=zaa (show atV bs i n = i * 7 % n by unfold atV; rw [if_pos c])
  clear hc
  go_enter Tryz.func14,Tryz.ntmps14
  go_wp2
  go_ret
  exact ⟨zct (by rw [E.out]),Below.refl _ _⟩
 ·obtain ⟨b,o,rfl,hb,hc⟩:=hc (by omega)
  have l0:(0:Int) < (bs.length:Int):=by omega
  have i0:=Int.emod_nonneg i (b:=(bs.length:Int)) (by omega)
  have i1:=Int.emod_lt_of_pos i l0
  have j0:=Int.emod_nonneg (i + 1) (b:=(bs.length:Int)) (by omega)
  have j1:=Int.emod_lt_of_pos (i + 1) l0
  have x0:=hc (i % (bs.length:Int)).toNat (by omega)
  have y0:=hc ((i + 1) % (bs.length:Int)).toNat (by omega)
  have bx:=h.2 (i % (bs.length:Int)).toNat (by omega)
  have byy:=h.2 ((i + 1) % (bs.length:Int)).toNat (by omega)
  have d0:0 ≤ i / (bs.length:Int):=Int.ediv_nonneg h0 (by omega)
  have d1:i / (bs.length:Int) ≤ 9:=Int.le_trans (Int.ediv_le_self _ h0) h1
  have c':((bs.length:Int) == 0) = false:=by simpa using c
  have ex:atX bs i = bs[(i % (bs.length:Int)).toNat]:=by unfold atX; rw [List.getElem?_eq_getElem (by omega)]; rfl
  have ey:atX bs (i + 1) = bs[((i + 1) % (bs.length:Int)).toNat]:=by unfold atX; rw [List.getElem?_eq_getElem (by omega)]; rfl
  have E:=zaa (show atV bs i n = (bs[(i % (bs.length:Int)).toNat] * 31 + bs[((i + 1) % (bs.length:Int)).toNat] + i / (bs.length:Int)) % n by unfold atV; rw [if_neg c,ex,ey])
  clear hc ex ey
  generalize bs[(i % (bs.length:Int)).toNat] = x at *
  generalize bs[((i + 1) % (bs.length:Int)).toNat] = y at *
  go_enter Tryz.func14,Tryz.ntmps14
  go_wp2
  go_quiet (fail)
  go_wp2
  go_ret
  exact ⟨zct (by rw [E.out]),Below.drewN'' (Below.refl _ _) _⟩
theorem yaui:Tryz.prog.cellsOf 5 = 1:=by kernel_rfl
section
variable {H:Type} {enc:TypeId × Value → H} {W:World} {sp:Nat → Bool} {held:Bool} {fuel:Nat} {v:Value} {y:DataW H × List MemPlace}
theorem yaxh {z:Int} (h:(Lit.int .u8 z).wf = true):0 ≤ z ∧ z < 256:=by
 have h1:IntKind.u8.min ≤ z ∧ z ≤ IntKind.u8.max:=by simpa [Lit.wf] using h
 have a:IntKind.u8.min = 0:=by rfl
 have b:IntKind.u8.max = 255:=by rfl
 omega
theorem zzp (h:DataW.trod enc Tryz.prog W 0 sp held fuel 22 [v] = some y):∃ zs:List Int,RdB W v zs ∧ zs.length ≤ maxLen:=by
 rcases open_ints Tryz.underlying22 Tryz.underlying5 yaui h with ⟨hcs,_⟩ | ⟨a,len,cap,zs,hcs,_,hl,hm,hz,_,hcell,hwz⟩
 ·simp only [List.cons.injEq,and_true] at hcs
  subst hcs
  exact ⟨[],⟨⟨rfl,none,0,rfl,⟨Nat.le_refl _,fun _ => rfl⟩,fun h => absurd h (by simp)⟩,fun k hk => by simp at hk⟩,by simp⟩
 ·simp only [List.cons.injEq,and_true] at hcs
  subst hcs
  have hzl:len ≤ zs.length:=by rw [hz]; split <;> omega
  have e:(zs.take len).length = len:=by simp; omega
  refine ⟨zs.take len,⟨⟨by simp [bys],some a,cap,by rw [e],⟨by rw [e]; exact hl,fun e => by cases e⟩,fun hn => ?_⟩,fun k hk => yaxh (hwz _ (List.mem_of_mem_take (List.getElem_mem hk)))⟩,by rw [e]; omega⟩
  rw [e] at hn
  obtain ⟨b,off,spot⟩:=a
  have hc:=hcell 0 (by omega)
  have hspot:spot = none:=by simpa [Addr.add] using World.cell?_spot hc
  subst hspot
  refine ⟨b,off,rfl,World.block_lt_of_cell? W _ (by simpa [Addr.add] using hc),fun j hj => ?_⟩
  rw [e] at hj
  have hc:=hcell j (by omega)
  rw [Addr.add_lit] at hc
  rw [hc,yaqk _ j (by rw [e]; omega)]
  simp [List.getD,show j < zs.length by omega]
end
end Go.Proofs.YtkdjfhkalelafaaGreatDoor

namespace Go.Proofs.YtkdjfhkalelafaaGreatDoor
open Go.RowKit
structure Mi where
 kind:Int
 at_:Int
 val:Int
def Mi.v (m:Mi):Value:=.agg #[.int .i64 m.kind,.int .i64 m.at_,.int .i64 m.val]
def miB (m:Mi):Bool:=decide ((m.kind = 1 ∧ (0 ≤ m.at_ ∧ m.at_ < 336) ∧ 0 ≤ m.val ∧ m.val < 1099511627776) ∨ (m.kind = 2 ∧ (0 ≤ m.at_ ∧ m.at_ < 336) ∧ m.val = 0) ∨ (m.kind = 4 ∧ (0 ≤ m.at_ ∧ m.at_ < 32) ∧ 0 ≤ m.val ∧ m.val < 1099511627776) ∨ ((m.kind = 3 ∨ m.kind = 5) ∧ m.at_ = 0 ∧ m.val = 0))
theorem yash {m:Mi}:miB m = true ↔ ((m.kind = 1 ∧ (0 ≤ m.at_ ∧ m.at_ < 336) ∧ 0 ≤ m.val ∧ m.val < 1099511627776) ∨ (m.kind = 2 ∧ (0 ≤ m.at_ ∧ m.at_ < 336) ∧ m.val = 0) ∨ (m.kind = 4 ∧ (0 ≤ m.at_ ∧ m.at_ < 32) ∧ 0 ≤ m.val ∧ m.val < 1099511627776) ∨ ((m.kind = 3 ∨ m.kind = 5) ∧ m.at_ = 0 ∧ m.val = 0)):=by unfold miB; exact decide_eq_true_iff
theorem zlp (k a v:Int):miB ⟨k,a,v⟩ = true ↔ ((k = 1 ∧ (0 ≤ a ∧ a < 336) ∧ 0 ≤ v ∧ v < 1099511627776) ∨ (k = 2 ∧ (0 ≤ a ∧ a < 336) ∧ v = 0) ∨ (k = 4 ∧ (0 ≤ a ∧ a < 32) ∧ 0 ≤ v ∧ v < 1099511627776) ∨ ((k = 3 ∨ k = 5) ∧ a = 0 ∧ v = 0)):=yash
end Go.Proofs.YtkdjfhkalelafaaGreatDoor

namespace Go.Proofs.YtkdjfhkalelafaaGreatDoor
def up (a v:Int):St:=⟨a,v,false⟩
def stM (p:St):Mi:=⟨1,p.at_,p.val⟩
def yalb (ks:List Int) (i:Nat):Bool:=(List.range i).any (fun k => ks[k]?.getD 0 / 8 == ks[i]?.getD 0 / 8)
def nl (ks:List Int):Nat → List Mi
 | 0 => []
 | i + 1 => if yalb ks i = true then nl ks i else nl ks i ++ [⟨2,ks[i]?.getD 0,0⟩]
def zbl (ks:List Int):List Mi:=nl ks ks.length ++ [⟨3,0,0⟩]
def seg (S:List St):List Mi:=S.map stM ++ zbl (S.map (·.at_))
def jrn:Nat → List St → List St
 | _,[] => []
 | i,u :: us => ⟨9 + 2 * (i:Int),u.at_,false⟩ :: ⟨9 + 2 * (i:Int) + 1,u.val,false⟩ :: jrn (i + 1) us
def cnt (n:Int):List St:=[⟨8,n,false⟩]
def zin (us:List St):List Mi:=seg us ++ seg (cnt 0)
def zdr (us:List St):List Mi:=if us.length = 0 then [] else seg (jrn 0 us) ++ seg (cnt (us.length:Int)) ++ zin us
end Go.Proofs.YtkdjfhkalelafaaGreatDoor

namespace Go.Proofs.YtkdjfhkalelafaaGreatDoor
def zrl (s:List Int × List St) (m:Mi):List Int × List St :=
 if m.kind = 1 then (s.1,s.2 ++ [⟨m.at_,m.val,false⟩]) else if m.kind = 2 then (s.1,s.2.map (fl1 m.at_)) else if m.kind = 3 then (zod s.1 s.2,zlx s.2) else s
def zno (s:List Int × List St) (l:List Mi):List Int × List St:=l.foldl zrl s
theorem yamj (s:List Int × List St):zno s [] = s:=rfl
theorem zjt (s:List Int × List St) (m:Mi) (l:List Mi):zno s (m :: l) = zno (zrl s m) l:=rfl
theorem zdj (s:List Int × List St) (l l':List Mi):zno s (l ++ l') = zno (zno s l) l':=by simp [zno]
theorem zxr (s:List Int × List St) (p:St):zrl s (stM p) = (s.1,s.2 ++ [⟨p.at_,p.val,false⟩]):=if_pos rfl
theorem zza (s:List Int × List St) (a:Int):zrl s ⟨2,a,0⟩ = (s.1,s.2.map (fl1 a)):=by
 unfold zrl
 rw [if_neg (show ¬ (2:Int) = 1 by decide),if_pos rfl]
theorem zwy (s:List Int × List St):zrl s ⟨3,0,0⟩ = (zod s.1 s.2,zlx s.2):=by
 unfold zrl
 rw [if_neg (by decide),if_neg (by decide),if_pos rfl]
theorem ztl (ks:List Int):∀ i,∀ m ∈ nl ks i,m = ⟨2,m.at_,0⟩
 | 0,m,h => by cases h
 | i + 1,m,h => by
  rw [nl] at h
  split at h
  ·exact ztl ks i m h
  ·rcases List.mem_append.1 h with h | h
   ·exact ztl ks i m h
   ·rw [List.mem_singleton.1 h]
theorem yaga (ks:List Int):∀ i k,k < i → ∃ m ∈ nl ks i,m.at_ / 8 = ks[k]?.getD 0 / 8
 | 0,k,h => absurd h (by omega)
 | i + 1,k,h => by
  rw [nl]
  by_cases e:k < i
  ·obtain ⟨m,hm,e⟩:=yaga ks i k e
   split
   ·exact ⟨m,hm,e⟩
   ·exact ⟨m,List.mem_append_left _ hm,e⟩
  ·obtain rfl:k = i:=by omega
   split
   ·rename_i hk
    simp only [yalb,List.any_eq_true,List.mem_range,beq_iff_eq] at hk
    obtain ⟨j,hj,e⟩:=hk
    obtain ⟨m,hm,e2⟩:=yaga ks k j hj
    exact ⟨m,hm,e2.trans e⟩
   ·exact ⟨_,List.mem_append_right _ (List.mem_singleton.2 rfl),rfl⟩
theorem znz:∀ (l:List Mi) (s:List Int × List St),(∀ m ∈ l,m = ⟨2,m.at_,0⟩) → ∃ g:St → St,zno s l = (s.1,s.2.map g) ∧ (∀ p,(g p).at_ = p.at_ ∧ (g p).val = p.val ∧ (p.fl = true → (g p).fl = true)) ∧ ∀ p,(∃ m ∈ l,m.at_ / 8 = p.at_ / 8) → (g p).fl = true
 | [],s,_ => ⟨id,by simp [zno],fun p => ⟨rfl,rfl,id⟩,fun p h => by obtain ⟨m,hm,_⟩:=h; cases hm⟩
 | m :: l,s,h => by
  have hm:=h m (by simp)
  obtain ⟨g,e,h1,h2⟩:=znz l (s.1,s.2.map (fl1 m.at_)) (fun x hx => h x (by simp [hx]))
  have hf:∀ p:St,(fl1 m.at_ p).at_ = p.at_ ∧ (fl1 m.at_ p).val = p.val ∧ (p.fl = true → (fl1 m.at_ p).fl = true):=fun p => by
   unfold fl1
   split
   ·exact ⟨rfl,rfl,fun _ => rfl⟩
   ·exact ⟨rfl,rfl,id⟩
  refine ⟨fun p => g (fl1 m.at_ p),?_,fun p => ?_,fun p hp => ?_⟩
  ·rw [zjt,hm,zza]
   show zno (s.1,s.2.map (fl1 m.at_)) l = _
   rw [e,List.map_map]
   rfl
  ·have a:=h1 (fl1 m.at_ p)
   have b:=hf p
   exact ⟨a.1.trans b.1,a.2.1.trans b.2.1,fun x => a.2.2 (b.2.2 x)⟩
  ·obtain ⟨x,hx,e2⟩:=hp
   rcases List.mem_cons.1 hx with rfl | hx
   ·apply (h1 _).2.2
    unfold fl1
    rw [if_pos e2.symm]
   ·apply h2
    exact ⟨x,hx,by rw [(hf p).1]; exact e2⟩
theorem yakf:∀ (ps:List St) (ws:List Int),(∀ p ∈ ps,p.fl = true) → zod ws ps = zcg ws ps ∧ zlx ps = []
 | [],_,_ => ⟨rfl,rfl⟩
 | p :: ps,ws,h => by
  have hp:=h p (by simp)
  have ih:=yakf ps (ws.set p.at_.toNat p.val) (fun q hq => h q (by simp [hq]))
  refine ⟨?_,?_⟩
  ·show zod (if p.fl then ws.set p.at_.toNat p.val else ws) ps = zcg (ws.set p.at_.toNat p.val) ps
   rw [hp]
   exact ih.1
  ·unfold zlx at ih ⊢
   rw [List.filter_cons,hp]
   exact ih.2
theorem yabm (g:St → St) (hg:∀ p,(g p).at_ = p.at_ ∧ (g p).val = p.val):∀ (ps:List St) (ws:List Int),zcg ws (ps.map g) = zcg ws ps
 | [],_ => rfl
 | p :: ps,ws => by
  show zcg (ws.set (g p).at_.toNat (g p).val) (ps.map g) = zcg (ws.set p.at_.toNat p.val) ps
  rw [(hg p).1,(hg p).2]
  exact yabm g hg ps _
theorem zqj:∀ (S:List St) (s:List Int × List St),zno s (S.map stM) = (s.1,s.2 ++ S.map (fun p => (⟨p.at_,p.val,false⟩:St)))
 | [],s => by simp [zno]
 | p :: S,s => by
  rw [List.map_cons,zjt,zxr,zqj S]
  simp
theorem zjm (S:List St) (ws:List Int):zno (ws,[]) (seg S) = (zcg ws S,[]):=by
 have e0:zno (ws,[]) (S.map stM) = (ws,S.map (fun p => (⟨p.at_,p.val,false⟩:St))):=by rw [zqj]; simp
 unfold seg zbl
 rw [zdj,e0,zdj]
 obtain ⟨g,e,h1,h2⟩:=znz (nl (S.map (·.at_)) (S.map (·.at_)).length) (ws,S.map (fun p => (⟨p.at_,p.val,false⟩:St))) (ztl _ _)
 rw [e,zjt,yamj,zwy]
 have hall:∀ p ∈ (S.map (fun p => (⟨p.at_,p.val,false⟩:St))).map g,p.fl = true:=by
  intro p hp
  rw [List.map_map,List.mem_map] at hp
  obtain ⟨q,hq,rfl⟩:=hp
  apply h2
  obtain ⟨i,hi,rfl⟩:=List.getElem_of_mem hq
  obtain ⟨m,hm,e2⟩:=yaga (S.map (·.at_)) (S.map (·.at_)).length i (by simpa using hi)
  refine ⟨m,hm,?_⟩
  rw [e2]
  simp [hi]
 have f:=yakf _ ws hall
 show (zod ws ((S.map (fun p => (⟨p.at_,p.val,false⟩:St))).map g),zlx _) = _
 rw [f.1,f.2,List.map_map,yabm (g ∘ fun p => (⟨p.at_,p.val,false⟩:St)) (fun p => ⟨(h1 _).1,(h1 _).2.1⟩)]
theorem yaff:∀ (us:List St) (i:Nat),∀ p ∈ jrn i us,9 + 2 * (i:Int) ≤ p.at_ ∧ p.at_ < 9 + 2 * ((i + us.length:Nat):Int)
 | [],_,p,h => by cases h
 | u :: us,i,p,h => by
  rw [jrn] at h
  simp only [List.length_cons]
  rcases List.mem_cons.1 h with rfl | h
  ·exact ⟨Int.le_refl _,by show 9 + 2 * (i:Int) < _; omega⟩
  ·rcases List.mem_cons.1 h with rfl | h
   ·exact ⟨by show _ ≤ 9 + 2 * (i:Int) + 1; omega,by show 9 + 2 * (i:Int) + 1 < _; omega⟩
   ·have:=yaff us (i + 1) p h
    omega
end Go.Proofs.YtkdjfhkalelafaaGreatDoor

namespace Go.Proofs.YtkdjfhkalelafaaGreatDoor
open Go.RowKit
def Mi.cells (s:Mi):List Value:=[.int .i64 s.kind,.int .i64 s.at_,.int .i64 s.val]
def mis (ps:List Mi):List Value:=ps.flatMap Mi.cells
theorem Mi.cells_len (s:Mi):s.cells.length = 3:=rfl
theorem yahh (ps:List Mi) (k:Nat) (h:k < ps.length):(mis ps)[k * 3]? = some (.int .i64 ps[k].kind):=zbo _ 3 Mi.cells_len ps k 0 h (by omega)
theorem yahj (ps:List Mi) (k:Nat) (h:k < ps.length):(mis ps)[k * 3 + 1]? = some (.int .i64 ps[k].at_):=zbo _ 3 Mi.cells_len ps k 1 h (by omega)
theorem yakj (ps:List Mi) (k:Nat) (h:k < ps.length):(mis ps)[k * 3 + 2]? = some (.int .i64 ps[k].val):=zbo _ 3 Mi.cells_len ps k 2 h (by omega)
def RdM (w:World) (v:Value) (ps:List Mi):Prop:=Rd w 3 v ps.length (mis ps)
theorem RdM.shape {w:World} {v:Value} {ps:List Mi} (h:RdM w v ps):∃ ao cap,v = .slice ao ps.length cap ∧ ps.length ≤ cap ∧ (0 < ps.length → ∃ b o,ao = some ⟨b,o,none⟩ ∧ b < w.heap.size ∧
  ∀ k (h:k < ps.length),w.cell? ⟨b,o + k * 3,none⟩ = some (.int .i64 ps[k].kind) ∧ w.cell? ⟨b,o + k * 3 + 1,none⟩ = some (.int .i64 ps[k].at_) ∧ w.cell? ⟨b,o + k * 3 + 2,none⟩ = some (.int .i64 ps[k].val)):=by
 obtain ⟨_,ao,cap,rfl,h2,h3⟩:=h
 refine ⟨ao,cap,rfl,h2.1,fun hn => ?_⟩
 obtain ⟨b,o,rfl,hb,hc⟩:=h3 hn
 exact ⟨b,o,rfl,hb,fun k hk => ⟨(hc (k * 3) (by omega)).trans (yahh ps k hk),(hc (k * 3 + 1) (by omega)).trans (yahj ps k hk),(hc (k * 3 + 2) (by omega)).trans (yakj ps k hk)⟩⟩
theorem zbx:(Tryz.prog.info? 192).map (fun i => (i.zero,i.size,i.bytes)) = some (some (.agg #[.int .i64 0,.int .i64 0,.int .i64 0]),3,24):=by kernel_rfl
end Go.Proofs.YtkdjfhkalelafaaGreatDoor
