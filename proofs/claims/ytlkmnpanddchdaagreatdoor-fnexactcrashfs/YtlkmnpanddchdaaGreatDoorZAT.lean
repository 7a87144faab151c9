/- Several texts laid together: PmUnsureI, Crash, CrashS, CrashI. -/
import Derived.Test.YtlkmnpanddchdaaGreatDoorZAS
import Derived.Deep.DeepCutAuto
import Derived.Test.YtlkmnpanddchdaaGreatDoorZAD
import Derived.Test.YtlkmnpanddchdaaGreatDoorZAE
import Derived.BigRegion
namespace Go.Proofs.YtlkmnpanddchdaaGreatDoor
open Go.RowKit
def zkg:Array Value:=(List.replicate 336 (Value.bool false)).toArray
theorem yahe (w:World):(zeroValue 203).run Tryz.prog w = .ok (.agg zkg) w:=by kernel_rfl
theorem zqe:zkg.size = 336:=by unfold zkg; rw [List.size_toArray,List.length_replicate]
theorem yajd (k:Nat) (hk:k < 336):zkg[k]? = some (.bool false):=by unfold zkg; rw [List.getElem?_toArray,List.getElem?_replicate,if_pos hk]
theorem zty (cs:Array Value) (k:Nat) (v:Value) (hk:k < 336) (hv:cs[k]? = some v) (w:World):(Instr.index 203 (.agg cs) (.int .i64 (k:Int))).run Tryz.prog w = .ok v w:=by
 obtain ⟨i,hi,_,hs,_⟩:=info_parts (P:=Tryz.prog) (e:=4) (z:=.bool false) (size:=1) (bytes:=1) (by kernel_rfl)
 simp [Instr.index,run_underlying Tryz.underlying203,run_underlying Tryz.underlying4,asIntOf,part,sizeOf,typeInfo,isAgg,hi,hs,hv,go_sem]
 omega
theorem yagx (ps:List St) (p:St) (k:Nat) (h0:0 ≤ p.at_):zgn (ps ++ [p]) k = if k = p.at_.toNat then true else zgn ps k:=by
 unfold zgn
 rw [List.any_append]
 by_cases e:k = p.at_.toNat
 ·rw [if_pos e]
  have:(p.at_ == (k:Int)) = true:=by rw [e]; simp; omega
  simp [this]
 ·rw [if_neg e]
  have:(p.at_ == (k:Int)) = false:=by simp; omega
  simp [this]
set_option maxRecDepth 100000 in
set_option maxHeartbeats 4000000 in
theorem zfb (v:Value) (ws:List Int) (ps:List St) (w:World) (h:RdPm w v ws ps) (hw:ws.length ≤ 1048576) (hp:ps.length ≤ 1048576) :
  Calls Tryz.prog 124 #[v] w fun e w' => ∃ v',e = .returned (.tuple #[v',.int .i64 (zrt ws ps)]) ∧ Row w' 3 1 w.heap.size w'.heap.size v' (unsZ ws ps).length (zav (unsZ ws ps)) ∧ Below w.heap.size w w':=by
 have HR:=zaa h
 obtain ⟨vW,vP,rfl,h1,h2⟩:=h
 obtain ⟨aW,cW,rfl,_⟩:=h1.shape
 obtain ⟨aP,cP,rfl,_,hcP⟩:=h2.shape
 have HP:=zaa hcP
 clear h1 h2 hcP
 have hb0:Below w.heap.size w (w.alloc (.cells #[.slice aW ws.length cW,.slice aP ps.length cP] 40)):=(Below.refl _ _).alloc (Nat.le_refl _) _
 by_cases hc:pmB ws ps = true
 ·obtain ⟨e1,e2⟩:=yakc hc
  rw [e1,e2]
  clear e1 e2
  have OK:=zaa (zsk hc)
  go_enter Tryz.func124,Tryz.ntmps124
  go_wp2_with fail
  refine (zaz _ ws ps _ (HR.out.below hb0) hw hp).mono ?_
  rintro e w1 ⟨rfl,hb1⟩
  have hz1:w.heap.size + 1 ≤ w1.heap.size:=by have:=hb1.size; simp at this; omega
  have V0:=(hb1.block w.heap.size (by simp <;> omega)).trans (zag rfl)
  obtain ⟨x1,x2,x3,x4⟩:=zad V0
  have B1:=zaa (zab hb0 hb1 (by simp <;> omega))
  have VH:=zaa V0
  clear hb0 hb1 V0
  have hal:=yahe
  have START:Hid ((w1.alloc (.cells zkg 203)).rowIs w1.heap.size 203 336 (fun k => .bool (zgn (ps.take 0) k))):=by
   have:=World.rowIs_alloc w1 zkg 203 (fun k => .bool (zgn (ps.take 0) k)) (fun k hk => by rw [zqe] at hk; rw [yajd k hk]; rfl)
   rw [zqe] at this
   exact this
  obtain ⟨z1,z2,z3,z4⟩:=zad (zal (o:=.cells zkg 203) VH.out)
  have BS:=zaa (B1.out.alloc (by omega) (.cells zkg 203))
  clear x1 x2 x3 x4
  go_wp2
  clear hal
  go_loopw [6,16] (fun _ i wr => ∃ m:Nat,m ≤ ps.length ∧ i = .int .i64 m ∧ wr.rowIs w1.heap.size 203 336 (fun k => .bool (zgn (ps.take m) k)) ∧ Below w.heap.size w wr ∧ w1.heap.size + 1 ≤ wr.heap.size) (fun _ i _ => ps.length - (intOf i).toNat)
  case atStart => exact ⟨0,by omega,rfl,START.out,BS.out,by simp⟩
  case round =>
   obtain ⟨m,hm,rfl,hrow,hb,hz⟩:=hrel
   by_cases hlt:m < ps.length
   ·obtain ⟨b,o,rfl,hbl,hcell⟩:=HP.out (by omega)
    obtain ⟨e0,e1,e2⟩:=hcell m hlt
    have d0:=(hb.cell (p:=⟨b,o + m * 3,none⟩) hbl).trans e0
    have d1:=(hb.cell (p:=⟨b,o + m * 3 + 1,none⟩) hbl).trans e1
    have d2:=(hb.cell (p:=⟨b,o + m * 3 + 2,none⟩) hbl).trans e2
    obtain ⟨q0,q1⟩:=OK.out m hlt
    have hrow2:=hrow.alloc (.cells #[.int .i64 ps[m].at_,.int .i64 ps[m].val,.bool ps[m].fl] 153)
    have g0:=hrow2.frozen ps[m].at_.toNat
    have g1:=hrow2.cell (i:=ps[m].at_.toNat) (by omega)
    have F:=zaa (hrow2.set ps[m].at_.toNat (.bool true))
    have G:=zaa ((hb.alloc (by omega) (.cells #[.int .i64 ps[m].at_,.int .i64 ps[m].val,.bool ps[m].fl] 153)).setCell (p:=⟨w1.heap.size,ps[m].at_.toNat,none⟩) (by simp only; omega) (.bool true))
    clear hrow hrow2 hcell e0 e1 e2
    go_wp2
    go_roundw
    case rel =>
     refine ⟨m + 1,by omega,by go_num,F.out.congr (fun k hk => ?_),G.out,by simp; omega⟩
     show (if k = ps[m].at_.toNat then Value.bool true else Value.bool (zgn (ps.take m) k)) = _
     rw [zbb ps m hlt,yagx _ _ _ q0]
     split <;> rfl
    case measure => simp [intOf]; omega
   ·have e:m = ps.length:=by omega
    subst e
    rw [List.take_length] at hrow
    obtain ⟨cs,hheap,hcs,hat⟩:=hrow
    have HH:=zaa hheap
    have HA:=zaa hat
    have hsz:(Tryz.prog.info? 203).map (·.size) = some cs.size:=by rw [hcs]; kernel_rfl
    have SZ:=zaa hsz
    clear hheap hat hsz hcs
    go_wp2_with (refine wpList_load_row rfl 203 _ rfl w1.heap.size rfl 203 cs (0,0) _ HH.out Tryz.underlying203 rfl SZ.out ?_)
    go_loopw [7,8,9,25] (fun vL _ _ i wx => ∃ m:Nat,m ≤ 336 ∧ i = .int .i64 m ∧ wx.ownsRow (w1.heap.size + 1) 3 1 vL (zhk ps m).length (zav (zhk ps m)) ∧ Below w.heap.size w wx ∧ w1.heap.size + 1 ≤ wx.heap.size) (fun _ _ _ i _ => 336 - (intOf i).toNat)
    case atStart => exact ⟨0,by omega,rfl,World.ownsRow_nil _ _ _ _,hb,hz⟩
    case round =>
     obtain ⟨m,hm,rfl,hown,hbx,hzx⟩:=hrel
     by_cases hlt:m < 336
     ·have hix:=zty cs m (.bool (zgn ps m)) hlt (HA.out m hlt)
      cases hh:zgn ps m
      ·rw [hh] at hix
       have E:=zaa (zzc hh)
       have O:=zaa hown
       clear hown hh
       go_wp2
       go_roundw
       case rel => exact ⟨m + 1,by omega,by go_num,by rw [E.out]; exact O.out,hbx,hzx⟩
       case measure => simp [intOf]; omega
      ·rw [hh] at hix
       have E:=zaa (yaej hh)
       have O2:=zaa (hown.alloc (.cells #[.int .i64 (m:Int)] 3))
       have HRD:=zaa (znh wr (m:Int))
       have hle:=zux ps m
       clear hown hh
       go_wp2_with (at_builtin; refine zak _ rfl (.tmp 30) (.tmp 32) 22 rfl (w1.heap.size + 1) 3 (.int .i64 0) 1 8 Tryz.underlying22 zga rfl (by decide) _ _ _ rfl O2.out _ 1 _ rfl HRD.out (by simp [Value.oneCell']) (by simp [maxLen]; omega) (by omega) (by simp; omega) ?_)
       intro vN wN hownN hgrN
       have hl:=fun k hk => (O2.out.lt k hk).1
       have hzN:=hgrN.size
       simp only [World.size_alloc] at hzN
       have G:Hid (wN.ownsRow (w1.heap.size + 1) 3 1 vN (zhk ps (m + 1)).length (zav (zhk ps (m + 1))) ∧ Below w.heap.size w wN):=by
        refine ⟨?_,(hbx.alloc (by omega) (.cells #[.int .i64 (m:Int)] 3)).grown hgrN (by simp; omega) (fun k hk => by have:=hl k hk; omega)⟩
        rw [E.out,zhr,List.length_append]
        exact hownN
       clear hownN hgrN hl
       go_wp2
       go_roundw
       case rel => exact ⟨m + 1,by omega,by go_num,G.out.1,G.out.2,by omega⟩
       case measure => simp [intOf]; omega
     ·have e:m = 336:=by omega
      subst e
      obtain ⟨aL,cL,hvL⟩:=RdI.form (zai hown).rd rfl
      subst hvL
      have O:=zaa hown
      clear hown
      go_wp2
      go_ret2
      exact ⟨_,rfl,(zai O.out).wide (by omega) (Nat.le_refl _),hbx⟩
 ·have hc':pmB ws ps = false:=by simpa using hc
  clear hc
  obtain ⟨e1,e2⟩:=yamh hc'
  rw [e1,e2]
  clear e1 e2
  go_enter Tryz.func124,Tryz.ntmps124
  go_wp2_with fail
  refine (zaz _ ws ps _ (HR.out.below hb0) hw hp).mono ?_
  rintro e w1 ⟨rfl,hb1⟩
  have B1:=zaa (zab hb0 hb1 (by simp <;> omega))
  clear hb0 hb1
  go_wp2
  go_ret2
  exact ⟨_,rfl,Row.nil _ _ _ _ _,B1.out⟩
end Go.Proofs.YtlkmnpanddchdaaGreatDoor

namespace Go.Proofs.YtlkmnpanddchdaaGreatDoor
def zhj (a:Nat) (s:Int × Int) (p:St):Int × Int:=if p.at_ = (a:Int) ∧ 0 < s.2 then (p.val,s.2 - 1) else s
def zef (a:Nat) (s:Int × Int) (ps:List St):Int × Int:=ps.foldl (zhj a) s
theorem yaju (a:Nat) (s:Int × Int):zef a s [] = s:=rfl
theorem zth (a:Nat) (s:Int × Int) (ps:List St) (p:St):zef a s (ps ++ [p]) = zhj a (zef a s ps) p:=by simp [zef]
theorem zwg (a:Nat) (s:Int × Int) (ps qs:List St):zef a s (ps ++ qs) = zef a (zef a s ps) qs:=by simp [zef]
theorem ziu {a:Nat} {s:Int × Int} (h:¬ 0 < s.2):∀ ps:List St,zef a s ps = s
 | [] => rfl
 | p :: ps => by
  show zef a (zhj a s p) ps = s
  have e:zhj a s p = s:=by unfold zhj; rw [if_neg (fun x => h x.2)]
  rw [e]
  exact ziu h ps
theorem zhn {a:Nat}:∀ (ps:List St) (s:Int × Int),0 ≤ s.2 → 0 ≤ (zef a s ps).2 ∧ (zef a s ps).2 ≤ s.2
 | [],s,h => ⟨h,Int.le_refl _⟩
 | p :: ps,s,h => by
  show 0 ≤ (zef a (zhj a s p) ps).2 ∧ (zef a (zhj a s p) ps).2 ≤ s.2
  have h1:0 ≤ (zhj a s p).2 ∧ (zhj a s p).2 ≤ s.2:=by
   unfold zhj
   split
   ·rename_i c; exact ⟨by have:=c.2; show 0 ≤ s.2 - 1; omega,by show s.2 - 1 ≤ s.2; omega⟩
   ·exact ⟨h,Int.le_refl _⟩
  have:=zhn (a:=a) ps (zhj a s p) h1.1
  omega
def spW (us:List Nat) (zs:List Int) (ps:List St) (ws:List Int):Nat → List Int
 | 0 => ws
 | i + 1 => (spW us zs ps ws i).set (us[i]?.getD 0) (zef (us[i]?.getD 0) ((spW us zs ps ws i)[us[i]?.getD 0]?.getD 0,zck zs i) ps).1
theorem zil (us:List Nat) (zs:List Int) (ps:List St) (ws:List Int):∀ i,(spW us zs ps ws i).length = ws.length
 | 0 => rfl
 | i + 1 => by rw [spW,List.length_set]; exact zil us zs ps ws i
def lfF (us:List Nat) (zs:List Int):Nat → Nat → Int
 | 0,_ => 0
 | i + 1,a => if a = us[i]?.getD 0 then zck zs i else lfF us zs i a
theorem yadv {us:List Nat} {zs:List Int} {a:Nat}:∀ (i:Nat),(∀ j,j < i → ¬ a = us[j]?.getD 0) → lfF us zs i a = 0
 | 0,_ => rfl
 | i + 1,h => by
  rw [lfF,if_neg (h i (by omega))]
  exact yadv i (fun j hj => h j (by omega))
theorem yaqr (us:List Nat) (zs:List Int) (ps:List St) (ws:List Int) (hus:∀ i j,j < i → i < us.length → ¬ us[i]?.getD 0 = us[j]?.getD 0) :
  ∀ (i:Nat),i ≤ us.length → ∀ a,a < ws.length → (spW us zs ps ws i)[a]?.getD 0 = (zef a (ws[a]?.getD 0,lfF us zs i a) ps).1
 | 0,_,a,_ => by
  show ws[a]?.getD 0 = (zef a (ws[a]?.getD 0,0) ps).1
  rw [ziu (by simp)]
 | i + 1,hi,a,ha => by
  have ih:=yaqr us zs ps ws hus i (by omega)
  rw [spW,lfF]
  by_cases e:a = us[i]?.getD 0
  ·rw [if_pos e]
   subst e
   have hl:us[i]?.getD 0 < (spW us zs ps ws i).length:=by rw [zil]; exact ha
   have e0:(spW us zs ps ws i)[us[i]?.getD 0]?.getD 0 = ws[us[i]?.getD 0]?.getD 0:=by
    rw [ih _ ha,yadv i (fun j hj => hus i j hj (by omega)),ziu (by simp)]
   rw [List.getElem?_set_self hl,Option.getD_some,e0]
  ·rw [if_neg e,List.getElem?_set_ne (fun h => e h.symm)]
   exact ih a ha
def zzt (s:List Int × (Nat → Int)) (p:St):List Int × (Nat → Int):=if 0 < s.2 p.at_.toNat then (s.1.set p.at_.toNat p.val,fun j => if j = p.at_.toNat then s.2 j - 1 else s.2 j) else s
def imS (s:List Int × (Nat → Int)) (ps:List St):List Int × (Nat → Int):=ps.foldl zzt s
theorem yaeq (s:List Int × (Nat → Int)) (ps:List St) (p:St):imS s (ps ++ [p]) = zzt (imS s ps) p:=by simp [imS]
theorem yacw (s:List Int × (Nat → Int)) (p:St):(zzt s p).1.length = s.1.length:=by
 unfold zzt
 split <;> simp
theorem zvu:∀ (ps:List St) (s:List Int × (Nat → Int)),(imS s ps).1.length = s.1.length
 | [],_ => rfl
 | p :: ps,s => by
  show (imS (zzt s p) ps).1.length = s.1.length
  rw [zvu ps,yacw]
theorem yatm (s:List Int × (Nat → Int)) (p:St) (h0:0 ≤ p.at_) (a:Nat) (ha:a < s.1.length):(((zzt s p).1)[a]?.getD 0,(zzt s p).2 a) = zhj a (s.1[a]?.getD 0,s.2 a) p:=by
 unfold zzt zhj
 by_cases e:p.at_ = (a:Int)
 ·have e':p.at_.toNat = a:=by omega
  rw [e']
  by_cases c:0 < s.2 a
  ·rw [if_pos c,if_pos ⟨e,c⟩]
   simp [ha]
  ·rw [if_neg c,if_neg (fun h => c h.2)]
 ·have e':¬ p.at_.toNat = a:=by omega
  have e'':¬ a = p.at_.toNat:=fun h => e' h.symm
  rw [if_neg (fun h:p.at_ = (a:Int) ∧ 0 < s.2 a => e h.1)]
  split
  ·simp [e'',List.getElem?_set_ne e']
  ·rfl
theorem yaip:∀ (ps:List St) (s:List Int × (Nat → Int)) (_:∀ p ∈ ps,0 ≤ p.at_) (a:Nat) (_:a < s.1.length),(((imS s ps).1)[a]?.getD 0,(imS s ps).2 a) = zef a (s.1[a]?.getD 0,s.2 a) ps
 | [],_,_,_,_ => rfl
 | p :: ps,s,h0,a,ha => by
  show (((imS (zzt s p) ps).1)[a]?.getD 0,(imS (zzt s p) ps).2 a) = zef a (zhj a (s.1[a]?.getD 0,s.2 a) p) ps
  rw [yaip ps (zzt s p) (fun q hq => h0 q (by simp [hq])) a (by rw [yacw]; exact ha),yatm s p (h0 p (by simp)) a ha]
theorem zxr {l l':List Int} (hl:l.length = l'.length) (h:∀ a,a < l.length → l[a]?.getD 0 = l'[a]?.getD 0):l = l':=by
 apply List.ext_getElem hl
 intro i h1 h2
 have:=h i h1
 simpa [h1,h2] using this
theorem yago (us:List Nat) (zs:List Int) (ps:List St) (ws:List Int) (hus:∀ i j,j < i → i < us.length → ¬ us[i]?.getD 0 = us[j]?.getD 0) (h0:∀ p ∈ ps,0 ≤ p.at_) :
  (imS (ws,lfF us zs us.length) ps).1 = spW us zs ps ws us.length:=by
 apply zxr
 ·rw [zvu,zil]
 ·intro a ha
  rw [zvu] at ha
  have:=yaip ps (ws,lfF us zs us.length) h0 a ha
  rw [yaqr us zs ps ws hus us.length (Nat.le_refl _) a ha]
  exact congrArg Prod.fst this
theorem zeb (f:Nat → Bool):∀ (n i j:Nat),j < i → i < ((List.range n).filter f).length → ((List.range n).filter f)[j]?.getD 0 < ((List.range n).filter f)[i]?.getD 0
 | 0,i,j,_,hi => by simp at hi
 | n + 1,i,j,hj,hi => by
  rw [List.range_succ,List.filter_append] at hi ⊢
  by_cases hf:f n = true
  ·have e:[n].filter f = [n]:=by simp [hf]
   rw [e] at hi ⊢
   rw [List.length_append,List.length_singleton] at hi
   have hlt:∀ k,k < ((List.range n).filter f).length → ((List.range n).filter f)[k]?.getD 0 < n:=by
    intro k hk
    rw [List.getElem?_eq_getElem hk,Option.getD_some]
    have:=List.getElem_mem hk
    rw [List.mem_filter,List.mem_range] at this
    exact this.1
   by_cases hi2:i < ((List.range n).filter f).length
   ·rw [List.getElem?_append_left (by omega),List.getElem?_append_left hi2]
    exact zeb f n i j hj hi2
   ·have ei:i = ((List.range n).filter f).length:=by omega
    rw [List.getElem?_append_left (by omega),List.getElem?_append_right (by omega),ei,Nat.sub_self]
    exact hlt j (by omega)
  ·have e:[n].filter f = []:=by simp [hf]
   rw [e,List.append_nil] at hi ⊢
   exact zeb f n i j hj hi
theorem yafp (ps:List St) (n:Nat):∀ i j,j < i → i < (zbg ps n).length → ¬ (zbg ps n)[i]?.getD 0 = (zbg ps n)[j]?.getD 0:=by
 intro i j hj hi e
 have:=zeb (zgn ps) n i j hj hi
 unfold zbg at e
 omega
theorem yaiy (ps:List St) (n i:Nat) (hi:i < (zbg ps n).length):(zbg ps n)[i]?.getD 0 < n:=by
 rw [List.getElem?_eq_getElem hi,Option.getD_some]
 have:=List.getElem_mem hi
 unfold zbg at this
 rw [List.mem_filter,List.mem_range] at this
 exact this.1
theorem zdu (ps:List St) (n:Nat):(zhk ps n).length = (zbg ps n).length:=by simp [zhk]
theorem yaax (ps:List St) (n i:Nat) (hi:i < (zhk ps n).length):(zhk ps n)[i] = (((zbg ps n)[i]?.getD 0:Nat):Int):=by
 have h2:i < (zbg ps n).length:=by rw [← zdu]; exact hi
 rw [List.getElem?_eq_getElem h2,Option.getD_some]
 simp [zhk]
end Go.Proofs.YtlkmnpanddchdaaGreatDoor

namespace Go.Proofs.YtlkmnpanddchdaaGreatDoor
open Go.RowKit
structure CrInv (w wr:World) (n:Nat) (X:List Int) (ps:List St) (us:List Int) (lo hi hi2:Nat) (vW vP vU:Value):Prop where
 words:Row wr 3 1 lo hi vW n (zav X)
 pend:Row wr 153 3 lo hi vP ps.length (sts ps)
 plc:Row wr 3 1 hi hi2 vU us.length (zav us)
 box:wr.heap[w.heap.size]? = some (.cells #[vW,vP] 40 (0,0))
 res:wr.heap[w.heap.size + 1]? = some (.cells #[.slice none 0 0,.slice none 0 0] 40 (0,0))
 below:Below w.heap.size w wr
 size:hi2 ≤ wr.heap.size
theorem CrInv.drewN {w wr:World} {n:Nat} {X:List Int} {ps:List St} {us:List Int} {lo hi hi2:Nat} {vW vP vU:Value} (h:CrInv w wr n X ps us lo hi hi2 vW vP vU) (m:Nat):CrInv w (wr.drewN m) n X ps us lo hi hi2 vW vP vU:=by
 obtain ⟨h1,h2,h3,h4,h5,h6,h7⟩:=h
 exact ⟨h1.same (fun _ _ _ => rfl),h2.same (fun _ _ _ => rfl),h3.same (fun _ _ _ => rfl),h4,h5,below_drewN h6 m,h7⟩
theorem CrInv.drew {w wr:World} {n:Nat} {X:List Int} {ps:List St} {us:List Int} {lo hi hi2:Nat} {vW vP vU:Value} (h:CrInv w wr n X ps us lo hi hi2 vW vP vU):CrInv w wr.drew n X ps us lo hi hi2 vW vP vU:=by
 obtain ⟨h1,h2,h3,h4,h5,h6,h7⟩:=h
 exact ⟨h1.same (fun _ _ _ => rfl),h2.same (fun _ _ _ => rfl),h3.same (fun _ _ _ => rfl),h4,h5,h6.drew,h7⟩
theorem CrInv.store {w wr:World} {n:Nat} {X:List Int} {ps:List St} {us:List Int} {lo hi hi2:Nat} {b cap:Nat} {vP vU:Value} (h:CrInv w wr n X ps us lo hi hi2 (.slice (some ⟨b,0,none⟩) n cap) vP vU) (hlo:w.heap.size + 2 ≤ lo) (a:Nat) (x:Int) :
  CrInv w (wr.setCell ⟨b,a,none⟩ (.int .i64 x)) n (X.set a x) ps us lo hi hi2 (.slice (some ⟨b,0,none⟩) n cap) vP vU:=by
 obtain ⟨h1,h2,h3,h4,h5,h6,h7⟩:=h
 obtain ⟨_,hb1,hb2,_⟩:=h1.at
 refine ⟨?_,h2.apart h1 (by decide) (World.ownsRow.stored h1.1 _ _).2,h3.same (fun k hk _ => Below.heap_setCell _ _ _ _ (by simp only; omega)),?_,?_,h6.setCell (by simp only; omega) _,by simp; omega⟩
 ·rw [← zem]; exact h1.stored _ _
 ·rw [Below.heap_setCell _ _ _ _ (by simp only; omega)]; exact h4
 ·rw [Below.heap_setCell _ _ _ _ (by simp only; omega)]; exact h5
def zzs (us:List Nat) (zs:List Int) (ps:List St) (ws:List Int) (i n:Nat):List Int :=
 (spW us zs ps ws i).set (us[i]?.getD 0) (zef (us[i]?.getD 0) ((spW us zs ps ws i)[us[i]?.getD 0]?.getD 0,zck zs i) (ps.take n)).1
def zoe (us:List Nat) (zs:List Int) (ps:List St) (ws:List Int) (i n:Nat):Int :=
 (zef (us[i]?.getD 0) ((spW us zs ps ws i)[us[i]?.getD 0]?.getD 0,zck zs i) (ps.take n)).2
theorem zwh (us:List Nat) (zs:List Int) (ps:List St) (ws:List Int) (i:Nat) (h:us[i]?.getD 0 < ws.length):zzs us zs ps ws i 0 = spW us zs ps ws i:=by
 unfold zzs
 have hl:us[i]?.getD 0 < (spW us zs ps ws i).length:=by rw [zil]; exact h
 rw [List.take_zero,yaju]
 simp [hl]
theorem zwq (us:List Nat) (zs:List Int) (ps:List St) (ws:List Int) (i:Nat):zoe us zs ps ws i 0 = zck zs i:=rfl
theorem yama {a:Nat} {s:Int × Int} {ps:List St} {n:Nat} (h:¬ 0 < (zef a s (ps.take n)).2):zef a s ps = zef a s (ps.take n):=by
 have e:zef a s (ps.take n ++ ps.drop n) = zef a s (ps.take n):=by rw [zwg,ziu h]
 rw [List.take_append_drop] at e
 exact e
theorem zon {us:List Nat} {zs:List Int} {ps:List St} {ws:List Int} {i n:Nat} (_hn:n ≤ ps.length) (h:n = ps.length ∨ ¬ 0 < zoe us zs ps ws i n):zzs us zs ps ws i n = spW us zs ps ws (i + 1):=by
 unfold zzs
 rw [spW]
 congr 2
 rcases h with h | h
 ·rw [h,List.take_length]
 ·exact (yama h).symm
theorem yajp {us:List Nat} {zs:List Int} {ps:List St} {ws:List Int} {i n:Nat} (hn:n < ps.length) (hk:0 < zoe us zs ps ws i n) (h:ps[n].at_ = ((us[i]?.getD 0:Nat):Int)) :
  zzs us zs ps ws i (n + 1) = (zzs us zs ps ws i n).set (us[i]?.getD 0) ps[n].val ∧ zoe us zs ps ws i (n + 1) = zoe us zs ps ws i n - 1:=by
 unfold zzs zoe at *
 rw [zbb ps n hn,zth]
 unfold zhj
 rw [if_pos ⟨h,hk⟩]
 exact ⟨by rw [List.set_set],rfl⟩
theorem yacj {us:List Nat} {zs:List Int} {ps:List St} {ws:List Int} {i n:Nat} (hn:n < ps.length) (h:¬ ps[n].at_ = ((us[i]?.getD 0:Nat):Int)) :
  zzs us zs ps ws i (n + 1) = zzs us zs ps ws i n ∧ zoe us zs ps ws i (n + 1) = zoe us zs ps ws i n:=by
 unfold zzs zoe
 rw [zbb ps n hn,zth]
 unfold zhj
 rw [if_neg (fun x => h x.1)]
 exact ⟨rfl,rfl⟩
theorem yacm (us:List Nat) (zs:List Int) (ps:List St) (ws:List Int) (i n:Nat):(zzs us zs ps ws i n).length = ws.length:=by unfold zzs; rw [List.length_set,zil]
theorem yajy {us:List Nat} {zs:List Int} {ps:List St} {ws:List Int} {i n:Nat} (h:0 ≤ zck zs i ∧ zck zs i ≤ 400):0 ≤ zoe us zs ps ws i n ∧ zoe us zs ps ws i n ≤ 400:=by
 have:=zhn (a:=us[i]?.getD 0) (ps.take n) ((spW us zs ps ws i)[us[i]?.getD 0]?.getD 0,zck zs i) h.1
 unfold zoe
 simp only at this
 omega
set_option maxRecDepth 100000 in
set_option maxHeartbeats 8000000 in
theorem zyq (v vZ:Value) (ws:List Int) (ps:List St) (zs:List Int) (w:World) (h:RdPm w v ws ps) (hz:RdI w vZ zs) (hw:ws.length ≤ 1048576) (hp:ps.length ≤ 1048576) (hzl:zs.length ≤ 1048576) (hok:pmB ws ps = true) (hks:zaw zs = true) :
  Calls Tryz.prog 73 #[v,vZ] w fun e w' => ∃ v',e = .returned v' ∧ RowPm w' w.heap.size w'.heap.size v' (spW (zbg ps 336) zs ps ws (zbg ps 336).length) [] ∧ Below w.heap.size w w':=by
 have HR:=zaa h
 obtain ⟨vW,vP,rfl,h1,h2⟩:=h
 obtain ⟨aW,cW,rfl,_⟩:=h1.shape
 obtain ⟨aP,cP,rfl,_⟩:=h2.shape
 obtain ⟨aZ,cZ,rfl,_,hcZ⟩:=hz.shape
 have HZ:=zaa hcZ
 have KB:=zaa (zoc hks)
 have L336:=zaa (zbz hok).1
 clear h1 h2 hz hcZ hok hks
 have hb0:Below w.heap.size w ((w.alloc (.cells #[.slice aW ws.length cW,.slice aP ps.length cP] 40)).alloc (.cells #[.slice none 0 0,.slice none 0 0] 40)):=by
  repeat (refine Below.alloc ?_ (by simp <;> omega) _)
  exact Below.refl _ _
 go_enter Tryz.func73,Tryz.ntmps73
 go_wp2_with fail
 refine (zly _ ws ps _ (HR.out.below hb0) (by omega) (by omega)).mono ?_
 rintro e w2 ⟨v2,rfl,hr2,hb2⟩
 obtain ⟨vW2,vP2,rfl,hI2,hS2⟩:=hr2
 obtain ⟨aW2,cW2,rfl⟩:=RdI.form hI2.rd rfl
 obtain ⟨aP2,cP2,rfl⟩:=RdS.form hS2.rd rfl
 simp only [World.size_alloc] at hI2 hS2
 have hz2:w.heap.size + 2 ≤ w2.heap.size:=by have:=hb2.size; simp at this; omega
 have V0:=(hb2.block w.heap.size (by simp <;> omega)).trans (zal (zag rfl))
 have V1:=(hb2.block (w.heap.size + 1) (by simp)).trans (zag (by simp))
 have B2:=zab hb0 hb2 (by simp <;> omega)
 obtain ⟨x1,x2,x3,x4⟩:=zad V0
 have KEEP:∀ b,w.heap.size + 2 ≤ b → ((w2.setCell ⟨w.heap.size,0,none⟩ (.slice aW2 ws.length cW2)).setCell ⟨w.heap.size,1,none⟩ (.slice aP2 ps.length cP2)).heap[b]? = w2.heap[b]?:=fun b hb => by
  rw [Below.heap_setCell _ _ _ _ (by simp only; omega),Below.heap_setCell _ _ _ _ (by simp only; omega)]
 have RW:=zaa (hI2.same (fun b hb1 _ => KEEP b (by omega)))
 have RP:=zaa (hS2.same (fun b hb1 _ => KEEP b (by omega)))
 have VB:=zaa (zgc (zeo V0 (.slice aW2 ws.length cW2)) (.slice aP2 ps.length cP2))
 have VR:Hid (((w2.setCell ⟨w.heap.size,0,none⟩ (.slice aW2 ws.length cW2)).setCell ⟨w.heap.size,1,none⟩ (.slice aP2 ps.length cP2)).heap[w.heap.size + 1]? = some (.cells #[.slice none 0 0,.slice none 0 0] 40 (0,0))):=by
  show _ = _
  rw [Below.heap_setCell _ _ _ _ (by simp only; omega),Below.heap_setCell _ _ _ _ (by simp only; omega)]
  exact V1
 have BB:=zaa ((B2.setCell (p:=⟨w.heap.size,0,none⟩) (by simp only; omega) (.slice aW2 ws.length cW2)).setCell (p:=⟨w.heap.size,1,none⟩) (by simp only; omega) (.slice aP2 ps.length cP2))
 obtain ⟨y1,y2,y3,y4⟩:=zad VB.out
 clear hb0 hb2 hI2 hS2 V0 V1 B2 KEEP
 go_wp2_with fail
 refine (zve _ ws ps _ ⟨_,_,rfl,RW.out.rd,RP.out.rd⟩ hp).mono ?_
 rintro e w3 ⟨v3,rfl,hr3,hb3⟩
 obtain ⟨aU,cU,rfl⟩:=RdI.form hr3.rd (n:=(zbg ps 336).length) (zdu ps 336)
 have hz3:w2.heap.size ≤ w3.heap.size:=by have:=hb3.size; simpa using this
 have hr3':Row w3 3 1 w2.heap.size w3.heap.size (.slice aU (zbg ps 336).length cU) (zhk ps 336).length (zav (zhk ps 336)):=hr3.wide (by simp) (Nat.le_refl _)
 have INV:Hid (CrInv w w3 ws.length (spW (zbg ps 336) zs ps ws 0) ps (zhk ps 336) (w.heap.size + 1 + 1) w2.heap.size w3.heap.size (.slice aW2 ws.length cW2) (.slice aP2 ps.length cP2) (.slice aU (zbg ps 336).length cU)) :=
  ⟨RW.out.below hb3 (by simp),RP.out.below hb3 (by simp),hr3',(hb3.block _ (by simp; omega)).trans VB.out,(hb3.block _ (by simp; omega)).trans VR.out,zab BB.out hb3 (by simp; omega),Nat.le_refl _⟩
 have hul:(zbg ps 336).length ≤ 336:=by rw [← zdu]; exact zux ps 336
 clear hr3 hr3' hb3 y1 y2 y3 y4
 go_wp2
 go_loopw [6,7,8] (fun ii _ _ wr => ∃ i:Nat,i ≤ (zbg ps 336).length ∧ ii = .int .i64 i ∧ Hid (CrInv w wr ws.length (spW (zbg ps 336) zs ps ws i) ps (zhk ps 336) (w.heap.size + 1 + 1) w2.heap.size w3.heap.size (.slice aW2 ws.length cW2) (.slice aP2 ps.length cP2) (.slice aU (zbg ps 336).length cU))) (fun ii _ _ _ => (zbg ps 336).length - (intOf ii).toNat)
 case atStart => exact ⟨0,by omega,rfl,INV⟩
 case round =>
  obtain ⟨i,hi,rfl,I⟩:=hrel
  by_cases hlt:i < (zbg ps 336).length
  ·have hal:(zbg ps 336)[i]?.getD 0 < ws.length:=by rw [L336.out]; exact yaiy ps 336 i hlt
   by_cases h0:zs.length = 0
   ·have KST:Hid (Value.int IntKind.i64 0 = .int .i64 (zoe (zbg ps 336) zs ps ws i 0)):=by
     show _ = _
     rw [zwq]; unfold zck; rw [if_pos h0]
    have h0':¬ (0:Int) < (zs.length:Int):=by omega
    clear h0
    go_wp2
    go_loopw [7,8] (fun kk nn wr => ∃ n:Nat,n ≤ ps.length ∧ nn = .int .i64 n ∧ kk = .int .i64 (zoe (zbg ps 336) zs ps ws i n) ∧ Hid (CrInv w wr ws.length (zzs (zbg ps 336) zs ps ws i n) ps (zhk ps 336) (w.heap.size + 1 + 1) w2.heap.size w3.heap.size (.slice aW2 ws.length cW2) (.slice aP2 ps.length cP2) (.slice aU (zbg ps 336).length cU))) (fun _ nn _ => ps.length - (intOf nn).toNat)
    case atStart => exact ⟨0,by omega,rfl,KST.out,by rw [zwh _ _ _ _ _ hal]; exact I⟩
    case round =>
     obtain ⟨n,hn,rfl,rfl,J⟩:=hrel
     obtain ⟨kb0,kb1⟩:=yajy (us:=zbg ps 336) (ps:=ps) (ws:=ws) (n:=n) (KB.out i)
     obtain ⟨y1,y2,y3,y4⟩:=zad J.out.box
     by_cases hlt2:n < ps.length
     ·by_cases hk:0 < zoe (zbg ps 336) zs ps ws i n
      ·obtain ⟨_,ao',cap',e',_,hc⟩:=J.out.pend.rd
       cases e'
       obtain ⟨bp,op,rfl,_,_⟩:=hc (by omega)
       obtain ⟨rfl,_,_,_,_,hcl⟩:=J.out.pend.at
       have e0:=(hcl (n * 3) (by omega)).trans (zfa _ n hlt2)
       have e1:=(hcl (n * 3 + 1) (by omega)).trans (zho _ n hlt2)
       clear hc hcl
       have hpl:=J.out.plc
       rw [zdu] at hpl
       obtain ⟨_,au',cu',eu',_,hcu⟩:=hpl.rd
       cases eu'
       obtain ⟨bu,ou,rfl,_,_⟩:=hcu (by omega)
       obtain ⟨rfl,_,_,_,_,hclu⟩:=hpl.at
       have hil:i < (zhk ps 336).length:=by rw [zdu]; exact hlt
       have u0:=(hclu i (by omega)).trans (zax _ i hil)
       rw [yaax] at u0
       clear hpl hcu hclu
       obtain ⟨_,aw',cw',ew',_,hcw⟩:=J.out.words.rd
       cases ew'
       obtain ⟨bw,ow,rfl,_,_⟩:=hcw (by omega)
       obtain ⟨rfl,_,_,_,hfrw,hclw⟩:=J.out.words.at
       have hj:(zbg ps 336)[i]?.getD 0 < (zzs (zbg ps 336) zs ps ws i n).length:=by rw [yacm]; exact hal
       have g0:=hfrw ((zbg ps 336)[i]?.getD 0)
       have g1:=(hclw ((zbg ps 336)[i]?.getD 0) (by omega)).trans (zax _ _ hj)
       clear hcw hfrw hclw
       have hlt2':(n:Int) < (ps.length:Int):=by omega
       have hlt':(i:Int) < ((zbg ps 336).length:Int):=by omega
       have n0:(0:Int) ≤ (n:Int):=by omega
       have i0:(0:Int) ≤ (i:Int):=by omega
       have a0:(0:Int) ≤ (((zbg ps 336)[i]?.getD 0:Nat):Int):=by omega
       have a1:(((zbg ps 336)[i]?.getD 0:Nat):Int) < (ws.length:Int):=by omega
       have MH:=zaa (fun h => yajp (zs:=zs) (ws:=ws) hlt2 hk h)
       have MM:=zaa (fun h => yacj (us:=zbg ps 336) (zs:=zs) (ws:=ws) (i:=i) hlt2 h)
       generalize zoe (zbg ps 336) zs ps ws i n = mk at *
       generalize ha:(zbg ps 336)[i]?.getD 0 = a at *
       clear ha
       by_cases c:ps[n].at_ = (a:Int)
       ·obtain ⟨m1,m2⟩:=MH.out c
        have M1:=zaa m1
        have M2:=zaa m2
        have c':(ps[n].at_ == (a:Int)) = true:=by simpa using c
        clear c m1 m2 MH MM
        go_wp2
        go_quiet (fail)
        go_wp2
        go_region
        all_goals
         go_wp2
         go_roundw
         case rel =>
          refine ⟨n + 1,by omega,by go_num,by rw [M2.out],?_⟩
          rw [M1.out]
          first | exact ((J.out.drewN _).store (Nat.le_refl _) _ _).drew | exact ((J.out.drewN _).drew).store (Nat.le_refl _) _ _
         case measure => simp [intOf]; omega
       ·obtain ⟨m1,m2⟩:=MM.out c
        have M1:=zaa m1
        have M2:=zaa m2
        have c':(ps[n].at_ == (a:Int)) = false:=by simpa using c
        clear c m1 m2 MH MM
        go_wp2
        go_quiet (fail)
        go_wp2
        go_roundw
        case rel =>
         refine ⟨n + 1,by omega,by go_num,by rw [M2.out],?_⟩
         rw [M1.out]
         exact J.out.drewN _
        case measure => simp [intOf]; omega
      ·have E:=zaa (zon (by omega) (.inr hk))
       have hk':¬ (0:Int) < zoe (zbg ps 336) zs ps ws i n:=hk
       have hkd:decide ((0:Int) < zoe (zbg ps 336) zs ps ws i n) = false:=by simpa using hk
       clear hk
       go_wp2
       go_roundw
       case rel => exact ⟨i + 1,by omega,by go_num,E.out ▸ J⟩
       case measure => simp [intOf]; omega
     ·have E:=zaa (zon (zs:=zs) (us:=zbg ps 336) (ws:=ws) (i:=i) hn (.inl (by omega)))
      go_wp2
      go_roundw
      case rel => exact ⟨i + 1,by omega,by go_num,E.out ▸ J⟩
      case measure => simp [intOf]; omega
   ·have hl:i % zs.length < zs.length:=Nat.mod_lt _ (by omega)
    have KST:Hid (Value.int IntKind.i64 zs[i % zs.length] = .int .i64 (zoe (zbg ps 336) zs ps ws i 0)):=by
     show _ = _
     rw [zwq]; unfold zck; rw [if_neg h0,List.getElem?_eq_getElem hl,Option.getD_some]
    obtain ⟨bz,oz,rfl,hbz,hcz⟩:=HZ.out (by omega)
    have hck:=(I.out.below.cell (p:=⟨bz,oz + i % zs.length,none⟩) hbz).trans (hcz (i % zs.length) hl)
    have h0':(0:Int) < (zs.length:Int):=by omega
    have m0:(0:Int) ≤ (i:Int) % (zs.length:Int):=Int.emod_nonneg _ (by omega)
    have m1:(i:Int) % (zs.length:Int) < (zs.length:Int):=Int.emod_lt_of_pos _ h0'
    have mt:((i:Int) % (zs.length:Int)).toNat = i % zs.length:=by rw [← Int.natCast_emod,Int.toNat_natCast]
    have hck2:wr.cell? ⟨bz,oz + ((i:Int) % (zs.length:Int)).toNat,none⟩ = some (.int .i64 zs[i % zs.length]):=by rw [mt]; exact hck
    clear h0 hcz mt
    go_wp2
    go_loopw [7,8] (fun kk nn wr => ∃ n:Nat,n ≤ ps.length ∧ nn = .int .i64 n ∧ kk = .int .i64 (zoe (zbg ps 336) zs ps ws i n) ∧ Hid (CrInv w wr ws.length (zzs (zbg ps 336) zs ps ws i n) ps (zhk ps 336) (w.heap.size + 1 + 1) w2.heap.size w3.heap.size (.slice aW2 ws.length cW2) (.slice aP2 ps.length cP2) (.slice aU (zbg ps 336).length cU))) (fun _ nn _ => ps.length - (intOf nn).toNat)
    case atStart => exact ⟨0,by omega,rfl,KST.out,by rw [zwh _ _ _ _ _ hal]; exact I⟩
    case round =>
     obtain ⟨n,hn,rfl,rfl,J⟩:=hrel
     obtain ⟨kb0,kb1⟩:=yajy (us:=zbg ps 336) (ps:=ps) (ws:=ws) (n:=n) (KB.out i)
     obtain ⟨y1,y2,y3,y4⟩:=zad J.out.box
     by_cases hlt2:n < ps.length
     ·by_cases hk:0 < zoe (zbg ps 336) zs ps ws i n
      ·obtain ⟨_,ao',cap',e',_,hc⟩:=J.out.pend.rd
       cases e'
       obtain ⟨bp,op,rfl,_,_⟩:=hc (by omega)
       obtain ⟨rfl,_,_,_,_,hcl⟩:=J.out.pend.at
       have e0:=(hcl (n * 3) (by omega)).trans (zfa _ n hlt2)
       have e1:=(hcl (n * 3 + 1) (by omega)).trans (zho _ n hlt2)
       clear hc hcl
       have hpl:=J.out.plc
       rw [zdu] at hpl
       obtain ⟨_,au',cu',eu',_,hcu⟩:=hpl.rd
       cases eu'
       obtain ⟨bu,ou,rfl,_,_⟩:=hcu (by omega)
       obtain ⟨rfl,_,_,_,_,hclu⟩:=hpl.at
       have hil:i < (zhk ps 336).length:=by rw [zdu]; exact hlt
       have u0:=(hclu i (by omega)).trans (zax _ i hil)
       rw [yaax] at u0
       clear hpl hcu hclu
       obtain ⟨_,aw',cw',ew',_,hcw⟩:=J.out.words.rd
       cases ew'
       obtain ⟨bw,ow,rfl,_,_⟩:=hcw (by omega)
       obtain ⟨rfl,_,_,_,hfrw,hclw⟩:=J.out.words.at
       have hj:(zbg ps 336)[i]?.getD 0 < (zzs (zbg ps 336) zs ps ws i n).length:=by rw [yacm]; exact hal
       have g0:=hfrw ((zbg ps 336)[i]?.getD 0)
       have g1:=(hclw ((zbg ps 336)[i]?.getD 0) (by omega)).trans (zax _ _ hj)
       clear hcw hfrw hclw
       have hlt2':(n:Int) < (ps.length:Int):=by omega
       have hlt':(i:Int) < ((zbg ps 336).length:Int):=by omega
       have n0:(0:Int) ≤ (n:Int):=by omega
       have i0:(0:Int) ≤ (i:Int):=by omega
       have a0:(0:Int) ≤ (((zbg ps 336)[i]?.getD 0:Nat):Int):=by omega
       have a1:(((zbg ps 336)[i]?.getD 0:Nat):Int) < (ws.length:Int):=by omega
       have MH:=zaa (fun h => yajp (zs:=zs) (ws:=ws) hlt2 hk h)
       have MM:=zaa (fun h => yacj (us:=zbg ps 336) (zs:=zs) (ws:=ws) (i:=i) hlt2 h)
       generalize zoe (zbg ps 336) zs ps ws i n = mk at *
       generalize ha:(zbg ps 336)[i]?.getD 0 = a at *
       clear ha
       by_cases c:ps[n].at_ = (a:Int)
       ·obtain ⟨m1,m2⟩:=MH.out c
        have M1:=zaa m1
        have M2:=zaa m2
        have c':(ps[n].at_ == (a:Int)) = true:=by simpa using c
        clear c m1 m2 MH MM
        go_wp2
        go_quiet (fail)
        go_wp2
        go_region
        all_goals
         go_wp2
         go_roundw
         case rel =>
          refine ⟨n + 1,by omega,by go_num,by rw [M2.out],?_⟩
          rw [M1.out]
          first | exact ((J.out.drewN _).store (Nat.le_refl _) _ _).drew | exact ((J.out.drewN _).drew).store (Nat.le_refl _) _ _
         case measure => simp [intOf]; omega
       ·obtain ⟨m1,m2⟩:=MM.out c
        have M1:=zaa m1
        have M2:=zaa m2
        have c':(ps[n].at_ == (a:Int)) = false:=by simpa using c
        clear c m1 m2 MH MM
        go_wp2
        go_quiet (fail)
        go_wp2
        go_roundw
        case rel =>
         refine ⟨n + 1,by omega,by go_num,by rw [M2.out],?_⟩
         rw [M1.out]
         exact J.out.drewN _
        case measure => simp [intOf]; omega
      ·have E:=zaa (zon (by omega) (.inr hk))
       have hk':¬ (0:Int) < zoe (zbg ps 336) zs ps ws i n:=hk
       have hkd:decide ((0:Int) < zoe (zbg ps 336) zs ps ws i n) = false:=by simpa using hk
       clear hk
       go_wp2
       go_roundw
       case rel => exact ⟨i + 1,by omega,by go_num,E.out ▸ J⟩
       case measure => simp [intOf]; omega
     ·have E:=zaa (zon (zs:=zs) (us:=zbg ps 336) (ws:=ws) (i:=i) hn (.inl (by omega)))
      go_wp2
      go_roundw
      case rel => exact ⟨i + 1,by omega,by go_num,E.out ▸ J⟩
      case measure => simp [intOf]; omega
  ·have e:i = (zbg ps 336).length:=by omega
   subst e
   obtain ⟨y1,y2,y3,y4⟩:=zad I.out.box
   obtain ⟨t1,t2,t3,t4⟩:=zad I.out.res
   obtain ⟨z1,z2,z3,z4⟩:=zad (zal (o:=.cells #[] 153) I.out.box)
   obtain ⟨z5,z6,z7,z8⟩:=zad (zal (o:=.cells #[] 153) I.out.res)
   have hsz:=I.out.size
   have ho:(wr.alloc (.cells #[] 153)).ownsRow (w.heap.size + 2) 153 3 (.slice (some ⟨wr.heap.size,0,none⟩) 0 0) 0 []:=by
    simpa using World.ownsRow_lit (base:=w.heap.size + 2) (e:=153) (size:=3) wr #[] 0 (by omega) (by simp) rfl
   have HO:=zaa ho
   clear ho
   go_wp2
   refine bodyPost_ret (v:=.agg #[.slice aW2 ws.length cW2,.slice (some ⟨wr.heap.size,0,none⟩) 0 0]) (by simp [results,Tryz.results73,go_sem,z5,z6]) rfl ?_
   refine ⟨_,rfl,⟨_,_,rfl,?_,?_⟩,(((I.out.below.alloc (by omega) _).setCell (by simp only; omega) _).setCell (by simp only; omega) _).setCell (by simp only; omega) _⟩
   ·rw [zil]
    refine ((I.out.words.alloc (by omega) (.cells #[] 153)).same fun b h1 h2 => ?_).wide (by omega) (by simp; omega)
    rw [Below.heap_setCell _ _ _ _ (by simp only; omega),Below.heap_setCell _ _ _ _ (by simp only; omega),Below.heap_setCell _ _ _ _ (by simp only; omega)]
   ·refine ((zai HO.out).same fun b h1 h2 => ?_).wide (by omega) (by simp)
    rw [Below.heap_setCell _ _ _ _ (by simp only; omega),Below.heap_setCell _ _ _ _ (by simp only; omega),Below.heap_setCell _ _ _ _ (by simp only; omega)]
def zew (ws:List Int) (ps:List St) (zs:List Int):Int:=if 4096 < zs.length then 2 else if pmB ws ps = true then if zaw zs = true then 0 else 4 else 1
def zfr (ws:List Int) (ps:List St) (zs:List Int):List Int:=if zew ws ps zs = 0 then spW (zbg ps 336) zs ps ws (zbg ps 336).length else []
theorem yacd (ws:List Int) (ps:List St) (zs:List Int) :
  (4096 < zs.length ∧ zew ws ps zs = 2 ∧ zfr ws ps zs = []) ∨
  (¬ 4096 < zs.length ∧ pmB ws ps = false ∧ zew ws ps zs = 1 ∧ zfr ws ps zs = []) ∨
  (¬ 4096 < zs.length ∧ pmB ws ps = true ∧ zaw zs = false ∧ zew ws ps zs = 4 ∧ zfr ws ps zs = []) ∨
  (¬ 4096 < zs.length ∧ pmB ws ps = true ∧ zaw zs = true ∧ zew ws ps zs = 0 ∧ zfr ws ps zs = spW (zbg ps 336) zs ps ws (zbg ps 336).length):=by
 by_cases c1:4096 < zs.length
 ·have e:zew ws ps zs = 2:=by unfold zew; rw [if_pos c1]
  exact .inl ⟨c1,e,by unfold zfr; rw [e]; rfl⟩
 ·by_cases c2:pmB ws ps = true
  ·by_cases c3:zaw zs = true
   ·have e:zew ws ps zs = 0:=by unfold zew; rw [if_neg c1,if_pos c2,if_pos c3]
    exact .inr (.inr (.inr ⟨c1,c2,c3,e,by unfold zfr; rw [if_pos e]⟩))
   ·have e:zew ws ps zs = 4:=by unfold zew; rw [if_neg c1,if_pos c2,if_neg c3]
    exact .inr (.inr (.inl ⟨c1,c2,by simpa using c3,e,by unfold zfr; rw [e]; rfl⟩))
  ·have e:zew ws ps zs = 1:=by unfold zew; rw [if_neg c1,if_neg c2]
   exact .inr (.inl ⟨c1,by simpa using c2,e,by unfold zfr; rw [e]; rfl⟩)
end Go.Proofs.YtlkmnpanddchdaaGreatDoor
