/- Several texts laid together: CrashP, JrM, JrP, JrQ, JrC. -/
import Derived.Test.YtlkmnpanddchdaaGreatDoorZAT
import Derived.Test.YtlkmnpanddchdaaGreatDoorZAU
import Derived.Test.YtlkmnpanddchdaaGreatDoorZAA
import Derived.Test.YtlkmnpanddchdaaGreatDoorZAF
import Derived.Test.YtlkmnpanddchdaaGreatDoorZAE
import Derived.Test.YtlkmnpanddchdaaGreatDoorZAS
import Derived.Test.YtlkmnpanddchdaaGreatDoorZAM
import Derived.Deep.RegionWith
import Derived.BigRegion
import Derived.BigQuiet
import Derived.Deep.QuietTactic
import Derived.Test.YtlkmnpanddchdaaGreatDoorZAN
import Derived.Test.YtlkmnpanddchdaaGreatDoorZAB
import Derived.Deep.RegionHeld3
namespace Go.Proofs.YtlkmnpanddchdaaGreatDoor
open Go.RowKit
def zey:Array Value:=(List.replicate 336 (Value.int .i64 0)).toArray
theorem yabu (w:World):(zeroValue 160).run Tryz.prog w = .ok (.agg zey) w:=by kernel_rfl
theorem znd:zey.size = 336:=by unfold zey; rw [List.size_toArray,List.length_replicate]
theorem yahh (k:Nat) (hk:k < 336):zey[k]? = some (.int .i64 0):=by unfold zey; rw [List.getElem?_toArray,List.getElem?_replicate,if_pos hk]
theorem yarg {us:List Nat} {zs:List Int} (hz:∀ i,0 ≤ zck zs i ∧ zck zs i ≤ 400):∀ (i a:Nat),0 ≤ lfF us zs i a ∧ lfF us zs i a ≤ 400
 | 0,_ => ⟨Int.le_refl _,by show (0:Int) ≤ 400; omega⟩
 | i + 1,a => by
  rw [lfF]
  split
  ·exact hz i
  ·exact yarg hz i a
theorem yavf {us:List Nat} {zs:List Int} {ps:List St} {ws:List Int} (hz:∀ i,0 ≤ zck zs i ∧ zck zs i ≤ 400) (h0:∀ p ∈ ps,0 ≤ p.at_) (i a:Nat) (ha:a < ws.length):0 ≤ (imS (ws,lfF us zs i) ps).2 a ∧ (imS (ws,lfF us zs i) ps).2 a ≤ 400:=by
 have e:=congrArg Prod.snd (yaip ps (ws,lfF us zs i) h0 a ha)
 have hb:=yarg (us:=us) hz i a
 have:=zhn (a:=a) ps (ws[a]?.getD 0,lfF us zs i a) hb.1
 simp only at e this
 omega
structure ImInv (w wr:World) (n:Nat) (S:List Int × (Nat → Int)) (bA lo hi:Nat) (vW:Value):Prop where
 words:Row wr 3 1 lo hi vW n (zav S.1)
 arr:wr.rowIs bA 160 336 (fun j => .int .i64 (S.2 j))
 aft:wr.heap[hi]? = some (.cells #[vW,.slice none 0 0] 40 (0,0))
 res:wr.heap[w.heap.size + 1]? = some (.cells #[.slice none 0 0,.slice none 0 0] 40 (0,0))
 below:Below w.heap.size w wr
 size:hi + 1 ≤ wr.heap.size
theorem ImInv.alloc {w wr:World} {n:Nat} {S:List Int × (Nat → Int)} {bA lo hi:Nat} {vW:Value} (h:ImInv w wr n S bA lo hi vW) (o:Obj):ImInv w (wr.alloc o) n S bA lo hi vW:=by
 obtain ⟨h1,h2,h3,h4,h5,h6⟩:=h
 exact ⟨h1.alloc (by omega) o,h2.alloc o,zal h3,zal h4,h5.alloc h5.size o,by simp; omega⟩
theorem ImInv.hit {w wr:World} {n:Nat} {S:List Int × (Nat → Int)} {bA lo hi b cap:Nat} (h:ImInv w wr n S bA lo hi (.slice (some ⟨b,0,none⟩) n cap)) (p:St) (hp:0 < S.2 p.at_.toNat) (hA:w.heap.size + 2 ≤ bA) (hlo:bA < lo) (hhi:bA < hi) :
  ImInv w ((wr.setCell ⟨b,p.at_.toNat,none⟩ (.int .i64 p.val)).setCell ⟨bA,p.at_.toNat,none⟩ (.int .i64 (S.2 p.at_.toNat - 1))) n (zzt S p) bA lo hi (.slice (some ⟨b,0,none⟩) n cap):=by
 obtain ⟨h1,h2,h3,h4,h5,h6⟩:=h
 obtain ⟨_,hb1,hb2,_⟩:=h1.at
 have e:zzt S p = (S.1.set p.at_.toNat p.val,fun j => if j = p.at_.toNat then S.2 j - 1 else S.2 j):=by unfold zzt; rw [if_pos hp]
 rw [e]
 refine ⟨?_,?_,?_,?_,(h5.setCell (by simp only; omega) _).setCell (by simp only; omega) _,by simp; omega⟩
 ·have:=h1.stored p.at_.toNat (.int .i64 p.val)
  rw [zem] at this
  exact this.same (fun k hk _ => Below.heap_setCell _ _ _ _ (by simp only; omega))
 ·refine ((h2.setOther (a:=⟨b,p.at_.toNat,none⟩) (by simp only; omega) (.int .i64 p.val)).set p.at_.toNat (.int .i64 (S.2 p.at_.toNat - 1))).congr (fun k hk => ?_)
  by_cases e:k = p.at_.toNat
  ·subst e; simp
  ·simp [e]
 ·rw [Below.heap_setCell _ _ _ _ (by simp only; omega),Below.heap_setCell _ _ _ _ (by simp only; omega)]; exact h3
 ·rw [Below.heap_setCell _ _ _ _ (by simp only; omega),Below.heap_setCell _ _ _ _ (by simp only; omega)]; exact h4
set_option maxRecDepth 100000 in
set_option maxHeartbeats 8000000 in
theorem zqa (v vZ:Value) (ws:List Int) (ps:List St) (zs:List Int) (w:World) (h:RdPm w v ws ps) (hz:RdI w vZ zs) (hw:ws.length ≤ 1048576) (hp:ps.length ≤ 1048576) (hzl:zs.length ≤ 1048576) :
  Calls Tryz.prog 81 #[v,vZ] w fun e w' => ∃ v',e = .returned (.tuple #[v',.int .i64 (zew ws ps zs)]) ∧ RowPm w' w.heap.size w'.heap.size v' (zfr ws ps zs) [] ∧ Below w.heap.size w w':=by
 have HR:=zaa h
 have HZ:=zaa hz
 obtain ⟨vW,vP,rfl,h1,h2⟩:=h
 have H1:=zaa h1
 have H2:=zaa h2
 obtain ⟨aW,cW,rfl,_⟩:=h1.shape
 obtain ⟨aP,cP,rfl,_⟩:=h2.shape
 obtain ⟨aZ,cZ,rfl,_⟩:=hz.shape
 clear h1 h2 hz
 have hb0:Below w.heap.size w ((w.alloc (.cells #[.slice aW ws.length cW,.slice aP ps.length cP] 40)).alloc (.cells #[.slice none 0 0,.slice none 0 0] 40)):=by
  repeat (refine Below.alloc ?_ (by simp <;> omega) _)
  exact Below.refl _ _
 rcases yacd ws ps zs with ⟨c1,e1,e2⟩ | ⟨c1,c2,e1,e2⟩ | ⟨c1,c2,c3,e1,e2⟩ | ⟨c1,c2,c3,e1,e2⟩
 ·rw [e1,e2]
  clear e1 e2
  go_enter Tryz.func81,Tryz.ntmps81
  go_wp2
  refine bodyPost_ret (v:=.tuple #[.agg #[.slice none 0 0,.slice none 0 0],.int .i64 2]) (by simp [results,Tryz.results81,go_sem]) rfl ?_
  exact ⟨_,rfl,RowPm.zero _ _ _,hb0⟩
 ·rw [e1,e2]
  obtain ⟨s1,s2⟩:=yamh c2
  have S1:=zaa s1
  clear e1 e2 s1 s2
  go_enter Tryz.func81,Tryz.ntmps81
  go_wp2_with fail
  refine (zfb _ ws ps _ (HR.out.below hb0) hw hp).mono ?_
  rw [S1.out]
  rintro e w1 ⟨v1,rfl,hr1,hb1⟩
  obtain ⟨aU,cU,rfl⟩:=RdI.form hr1.rd rfl
  have V1:=(hb1.block (w.heap.size + 1) (by simp)).trans (zag (by simp))
  obtain ⟨t1,t2,t3,t4⟩:=zad V1
  have B1:=zaa (zab hb0 hb1 (by simp <;> omega))
  clear hb0 hb1 V1 hr1
  go_wp2
  refine bodyPost_ret (v:=.tuple #[.agg #[.slice none 0 0,.slice none 0 0],.int .i64 1]) (by simp [results,Tryz.results81,go_sem,t1,t2]) rfl ?_
  exact ⟨_,rfl,RowPm.zero _ _ _,(B1.out.setCell (by simp only; omega) _).setCell (by simp only; omega) _⟩
 ·rw [e1,e2]
  obtain ⟨s1,s2⟩:=yakc c2
  have S1:=zaa s1
  clear e1 e2 s1 s2
  go_enter Tryz.func81,Tryz.ntmps81
  go_wp2_with fail
  refine (zfb _ ws ps _ (HR.out.below hb0) hw hp).mono ?_
  rw [S1.out]
  rintro e w1 ⟨v1,rfl,hr1,hb1⟩
  obtain ⟨aU,cU,rfl⟩:=RdI.form hr1.rd rfl
  have V1:=(hb1.block (w.heap.size + 1) (by simp)).trans (zag (by simp))
  obtain ⟨t1,t2,t3,t4⟩:=zad V1
  have B1:=zaa (zab hb0 hb1 (by simp <;> omega))
  clear hb0 hb1 V1 hr1
  go_wp2_with (go_at_call 122; refine (zdy _ zs _ (Rd.below HZ.out B1.out) (by omega)).mono ?_; rintro e w1 ⟨rfl,rfl⟩)
  refine bodyPost_ret (v:=.tuple #[.agg #[.slice none 0 0,.slice none 0 0],.int .i64 4]) (by simp [results,Tryz.results81,go_sem,t1,t2]) rfl ?_
  exact ⟨_,rfl,RowPm.zero _ _ _,(B1.out.setCell (by simp only; omega) _).setCell (by simp only; omega) _⟩
 ·rw [e1,e2]
  obtain ⟨s1,s2⟩:=yakc c2
  have S1:=zaa s1
  have OK:=zaa (yakv c2)
  have OKA:=zaa (zsk c2)
  have P0:=zaa (fun p (hp:p ∈ ps) => show 0 ≤ p.at_ by obtain ⟨i,hi,rfl⟩:=List.getElem_of_mem hp; exact (zsk c2 i hi).1)
  have L336:=zaa (zbz c2).1
  have KB:=zaa (zoc c3)
  clear e1 e2 s1
  go_enter Tryz.func81,Tryz.ntmps81
  go_wp2_with fail
  refine (zfb _ ws ps _ (HR.out.below hb0) hw hp).mono ?_
  rw [S1.out,s2]
  rintro e w1 ⟨v1,rfl,hr1,hb1⟩
  obtain ⟨aU,cU,rfl⟩:=RdI.form hr1.rd (n:=(zbg ps 336).length) (zdu ps 336)
  have hz1:w.heap.size + 2 ≤ w1.heap.size:=by have:=hb1.size; simp at this; omega
  have V0:=(hb1.block w.heap.size (by simp <;> omega)).trans (zal (zag rfl))
  have V1:=(hb1.block (w.heap.size + 1) (by simp)).trans (zag (by simp))
  have B1:=zaa (zab hb0 hb1 (by simp <;> omega))
  have RU:Hid (Row w1 3 1 (w.heap.size + 2) w1.heap.size (.slice aU (zbg ps 336).length cU) (zbg ps 336).length (zav (zhk ps 336))):=by
   have:=hr1.wide (lo':=w.heap.size + 2) (hi':=w1.heap.size) (by simp only [World.size_alloc]; omega) (Nat.le_refl _)
   rw [zdu] at this
   exact this
  have START:Hid ((w1.alloc (.cells zey 160)).rowIs w1.heap.size 160 336 (fun j => .int .i64 (lfF (zbg ps 336) zs 0 j))):=by
   have:=World.rowIs_alloc w1 zey 160 (fun j => .int .i64 (lfF (zbg ps 336) zs 0 j)) (fun k hk => by rw [znd] at hk; rw [yahh k hk]; rfl)
   rw [znd] at this
   exact this
  have VH:=zaa (And.intro (zal (o:=.cells zey 160) V0) (zal (o:=.cells zey 160) V1))
  have BH:=zaa (B1.out.alloc (by omega) (.cells zey 160))
  have hul:(zbg ps 336).length ≤ 336:=by rw [← zdu]; exact zux ps 336
  have hno:=yabu
  clear hb0 hb1 V0 V1 hr1 s2
  go_wp2_with (go_at_call 122; refine (zdy _ zs _ (Rd.below HZ.out B1.out) (by omega)).mono ?_; rintro e w1 ⟨rfl,rfl⟩)
  clear hno
  go_loopw [9,10,33] (fun _ _ ii wr => ∃ i:Nat,i ≤ (zbg ps 336).length ∧ ii = .int .i64 i ∧ wr.rowIs w1.heap.size 160 336 (fun j => .int .i64 (lfF (zbg ps 336) zs i j)) ∧ (∀ b,¬ b = w1.heap.size → wr.heap[b]? = (w1.alloc (.cells zey 160)).heap[b]?) ∧ Below w.heap.size w wr ∧ wr.heap.size = w1.heap.size + 1) (fun _ _ ii _ => (zbg ps 336).length - (intOf ii).toNat)
  case atStart => exact ⟨0,by omega,rfl,START.out,fun _ _ => rfl,BH.out,by simp⟩
  case round =>
   obtain ⟨i,hi,rfl,hrow,hsame,hb,hz⟩:=hrel
   by_cases hlt:i < (zbg ps 336).length
   ·obtain ⟨_,au',cu',eu',_,hcu⟩:=RU.out.rd
    cases eu'
    obtain ⟨bu,ou,rfl,hbu,_⟩:=hcu (by omega)
    obtain ⟨rfl,_,hbu2,_,_,hclu⟩:=RU.out.at
    have hil:i < (zhk ps 336).length:=by rw [zdu]; exact hlt
    have u0:=(World.cell?_of_block (w:=w1) (a:=⟨bu,i,none⟩) ((hsame bu (by omega)).trans (by rw [zdz,if_neg (by omega)]))).trans ((hclu i (by omega)).trans (zax _ i hil))
    rw [yaax] at u0
    have hal:(zbg ps 336)[i]?.getD 0 < 336:=yaiy ps 336 i hlt
    have g0:=hrow.frozen ((zbg ps 336)[i]?.getD 0)
    have g1:=hrow.cell hal
    have F:Hid ((wr.setCell ⟨w1.heap.size,(zbg ps 336)[i]?.getD 0,none⟩ (.int .i64 (zck zs i))).rowIs w1.heap.size 160 336 (fun j => .int .i64 (lfF (zbg ps 336) zs (i + 1) j))):=by
     refine (hrow.set ((zbg ps 336)[i]?.getD 0) (.int .i64 (zck zs i))).congr (fun j hj => ?_)
     show (if j = (zbg ps 336)[i]?.getD 0 then _ else _) = Value.int .i64 (if j = (zbg ps 336)[i]?.getD 0 then _ else _)
     split <;> rfl
    have G:Hid ((∀ b,¬ b = w1.heap.size → (wr.setCell ⟨w1.heap.size,(zbg ps 336)[i]?.getD 0,none⟩ (.int .i64 (zck zs i))).heap[b]? = (w1.alloc (.cells zey 160)).heap[b]?) ∧ Below w.heap.size w (wr.setCell ⟨w1.heap.size,(zbg ps 336)[i]?.getD 0,none⟩ (.int .i64 (zck zs i)))) :=
     ⟨fun b hb' => (Below.heap_setCell _ _ _ _ (by simp only; exact hb')).trans (hsame b hb'),hb.setCell (by simp only; omega) _⟩
    clear hrow hsame hcu hclu
    generalize ha:(zbg ps 336)[i]?.getD 0 = a at *
    clear ha
    have a0:(0:Int) ≤ (a:Int):=by omega
    have a1:(a:Int) < 336:=by omega
    go_wp2_with fail
    refine (zlu _ zs i _ (Rd.below HZ.out hb) hzl (by omega)).mono ?_
    rintro e wr ⟨rfl,rfl⟩
    go_wp2
    go_roundw
    case rel => exact ⟨i + 1,by omega,by go_num,F.out,G.out.1,G.out.2,by simp; omega⟩
    case measure => simp [intOf]; omega
   ·have e:i = (zbg ps 336).length:=by omega
    subst e
    have ARR:=zaa hrow
    have VB:=(hsame w.heap.size (by omega)).trans VH.out.1
    have VR:=(hsame (w.heap.size + 1) (by omega)).trans VH.out.2
    obtain ⟨y1,y2,y3,y4⟩:=zad VB
    have VV:=zaa (And.intro VB VR)
    clear hrow hsame VB VR
    go_wp2_with (at_builtin; refine zak _ rfl (.const (.slice none 0 0)) (.tmp 45) 22 rfl (w1.heap.size + 1) 3 (.int .i64 0) 1 8 Tryz.underlying22 zga rfl (by decide) _ 0 [] rfl (World.ownsRow_nil _ _ _ _) _ ws.length (zav ws) rfl (Rd.below H1.out hb) (zed ws) (by simp [maxLen]; omega) (by omega) (by omega) ?_)
    intro v2 w2 hown2 hgr2
    have hown2:w2.ownsRow (w1.heap.size + 1) 3 1 v2 ws.length (zav ws):=by simpa using hown2
    obtain ⟨aW2,cW2,rfl⟩:=RdI.form (zai hown2).rd rfl
    have hz2:w1.heap.size + 1 ≤ w2.heap.size:=by have:=hgr2.size; omega
    have B2:=hb.grown hgr2 (by omega) (fun k hk => by cases hk)
    have V0:=(hgr2.block w.heap.size (by omega) (by simp [Value.ownBlock])).trans VV.out.1
    have V1:=(hgr2.block (w.heap.size + 1) (by omega) (by simp [Value.ownBlock])).trans VV.out.2
    have AR2:=ARR.out.of_block (hgr2.block w1.heap.size (by omega) (by simp [Value.ownBlock]))
    have INV:Hid (ImInv w (w2.alloc (.cells #[.slice aW2 ws.length cW2,.slice none 0 0] 40)) ws.length (imS (ws,lfF (zbg ps 336) zs (zbg ps 336).length) (ps.take 0)) w1.heap.size (w1.heap.size + 1) w2.heap.size (.slice aW2 ws.length cW2)) :=
     ⟨(zai hown2).alloc (Nat.le_refl _) _,AR2.alloc _,zag rfl,zal V1,B2.alloc (by omega) _,by simp⟩
    obtain ⟨z1,z2,z3,z4⟩:=zad (zal (o:=.cells #[.slice aW2 ws.length cW2,.slice none 0 0] 40) V0)
    clear y1 y2 y3 y4 hown2 hgr2 B2 V0 V1 AR2
    go_wp2
    go_loopw [12,13] (fun q _ wr => ∃ m:Nat,m ≤ ps.length ∧ RdS w q (ps.drop m) ∧ Hid (ImInv w wr ws.length (imS (ws,lfF (zbg ps 336) zs (zbg ps 336).length) (ps.take m)) w1.heap.size (w1.heap.size + 1) w2.heap.size (.slice aW2 ws.length cW2))) (fun q _ _ => match q with | .slice _ n _ => n | _ => 0)
    case atStart => exact ⟨0,by omega,by simpa using H2.out,INV⟩
    case round =>
     obtain ⟨m,hm,hq,I⟩:=hrel
     obtain ⟨y1,y2,y3,y4⟩:=zad I.out.aft
     by_cases hlt:m < ps.length
     ·obtain ⟨b,o,cq,rfl,hcq,hbl,e0,e1,e2⟩:=hq.head hlt
      have d0:=(I.out.below.cell (p:=⟨b,o,none⟩) hbl).trans e0
      have d1:=(I.out.below.cell (p:=⟨b,o + 1,none⟩) hbl).trans e1
      have d2:=(I.out.below.cell (p:=⟨b,o + 2,none⟩) hbl).trans e2
      have Q:=zaa hq
      have hsz:=I.out.size
      obtain ⟨q0,q1⟩:=OK.out m hlt
      obtain ⟨_,q2⟩:=OKA.out m hlt
      have BD:=yavf (us:=zbg ps 336) (ws:=ws) (ps:=ps.take m) KB.out (fun p hp => P0.out p (List.mem_of_mem_take hp)) (zbg ps 336).length ps[m].at_.toNat (by omega)
      have IA:=zaa (I.out.alloc (.cells #[.int .i64 ps[m].at_,.int .i64 ps[m].val,.bool ps[m].fl] 153))
      have g0:=IA.out.arr.frozen ps[m].at_.toNat
      have g1:=IA.out.arr.cell (i:=ps[m].at_.toNat) (by omega)
      clear hq e0 e1 e2
      by_cases c:0 < (imS (ws,lfF (zbg ps 336) zs (zbg ps 336).length) (ps.take m)).2 ps[m].at_.toNat
      ·obtain ⟨_,aw',cw',ew',_,hcw⟩:=IA.out.words.rd
       cases ew'
       obtain ⟨bw,ow,rfl,hblw,_⟩:=hcw (by omega)
       obtain ⟨rfl,hb1,_,_,hfrw,hclw⟩:=IA.out.words.at
       have hj:ps[m].at_.toNat < (imS (ws,lfF (zbg ps 336) zs (zbg ps 336).length) (ps.take m)).1.length:=by rw [zvu]; show _ < ws.length; omega
       have k0:=hfrw ps[m].at_.toNat
       have k1:=(hclw ps[m].at_.toNat (by omega)).trans (zax _ _ hj)
       have I1:=zaa (IA.out.hit ps[m] c hz1 (by omega) hz2)
       have E:=zaa (show imS (ws,lfF (zbg ps 336) zs (zbg ps 336).length) (ps.take (m + 1)) = zzt (imS (ws,lfF (zbg ps 336) zs (zbg ps 336).length) (ps.take m)) ps[m] by rw [zbb ps m hlt,yaeq])
       clear hcw hfrw hclw
       obtain ⟨s1,s2,_,_⟩:=zad IA.out.aft
       generalize hx:(imS (ws,lfF (zbg ps 336) zs (zbg ps 336).length) (ps.take m)).2 ps[m].at_.toNat = x at *
       go_wp2
       go_roundw
       case rel => exact ⟨m + 1,by omega,Q.out.next hlt (fun h => if_neg h) (by split <;> simp) rfl rfl,by rw [E.out]; exact I1⟩
       case measure => show ps.length - m - 1 < ps.length - m; omega
      ·have E:=zaa (show imS (ws,lfF (zbg ps 336) zs (zbg ps 336).length) (ps.take (m + 1)) = imS (ws,lfF (zbg ps 336) zs (zbg ps 336).length) (ps.take m) by rw [zbb ps m hlt,yaeq]; unfold zzt; rw [if_neg c])
       obtain ⟨s1,s2,_,_⟩:=zad IA.out.aft
       generalize hx:(imS (ws,lfF (zbg ps 336) zs (zbg ps 336).length) (ps.take m)).2 ps[m].at_.toNat = x at *
       go_wp2
       go_roundw
       case rel => exact ⟨m + 1,by omega,Q.out.next hlt (fun h => if_neg h) (by split <;> simp) rfl rfl,by rw [E.out]; exact IA⟩
       case measure => show ps.length - m - 1 < ps.length - m; omega
     ·have e:m = ps.length:=by omega
      subst e
      obtain ⟨aq,cq,eq⟩:=hq.form (n:=0) (by simp)
      subst eq
      obtain ⟨t1,t2,t3,t4⟩:=zad I.out.res
      have hsz:=I.out.size
      clear hq
      go_wp2
      have I2:=I.out
      refine bodyPost_ret (v:=.tuple #[.agg #[.slice aW2 ws.length cW2,.slice none 0 0],.int .i64 0]) (by simp [results,Tryz.results81,go_sem,t1,t2]) rfl ?_
      refine ⟨_,rfl,⟨_,_,rfl,?_,Row.nil _ _ _ _ _⟩,(I2.below.setCell (by simp only; omega) _).setCell (by simp only; omega) _⟩
      rw [zil]
      have:=I2.words
      rw [List.take_length,yago _ _ _ _ (yafp ps 336) P0.out] at this
      refine (this.same fun b h1 h2 => ?_).wide (by omega) (by simp; omega)
      rw [Below.heap_setCell _ _ _ _ (by simp only; omega),Below.heap_setCell _ _ _ _ (by simp only; omega)]
end Go.Proofs.YtlkmnpanddchdaaGreatDoor

namespace Go.Proofs.YtlkmnpanddchdaaGreatDoor
def zul (s:List Int × List St) (m:Mi):List Int × List St :=
 if m.kind = 1 then (s.1,s.2 ++ [⟨m.at_,m.val,false⟩]) else if m.kind = 2 then (s.1,s.2.map (fl1 m.at_)) else if m.kind = 3 then (zjn s.1 s.2,zgw s.2) else s
def zvw (s:List Int × List St) (l:List Mi):List Int × List St:=l.foldl zul s
theorem yanx (s:List Int × List St):zvw s [] = s:=rfl
theorem zlg (s:List Int × List St) (m:Mi) (l:List Mi):zvw s (m :: l) = zvw (zul s m) l:=rfl
theorem zjt (s:List Int × List St) (l l':List Mi):zvw s (l ++ l') = zvw (zvw s l) l':=by simp [zvw]
theorem yaba (s:List Int × List St) (p:St):zul s (stM p) = (s.1,s.2 ++ [⟨p.at_,p.val,false⟩]):=if_pos rfl
theorem yabn (s:List Int × List St) (a:Int):zul s ⟨2,a,0⟩ = (s.1,s.2.map (fl1 a)):=by
 unfold zul
 rw [if_neg (show ¬ (2:Int) = 1 by decide),if_pos rfl]
theorem yabl (s:List Int × List St):zul s ⟨3,0,0⟩ = (zjn s.1 s.2,zgw s.2):=by
 unfold zul
 rw [if_neg (by decide),if_neg (by decide),if_pos rfl]
theorem zvj (ks:List Int):∀ i,∀ m ∈ nl ks i,m = ⟨2,m.at_,0⟩
 | 0,m,h => by cases h
 | i + 1,m,h => by
  rw [nl] at h
  split at h
  ·exact zvj ks i m h
  ·rcases List.mem_append.1 h with h | h
   ·exact zvj ks i m h
   ·rw [List.mem_singleton.1 h]
theorem yaly (ks:List Int):∀ i k,k < i → ∃ m ∈ nl ks i,m.at_ / 8 = ks[k]?.getD 0 / 8
 | 0,k,h => absurd h (by omega)
 | i + 1,k,h => by
  rw [nl]
  by_cases e:k < i
  ·obtain ⟨m,hm,e⟩:=yaly ks i k e
   split
   ·exact ⟨m,hm,e⟩
   ·exact ⟨m,List.mem_append_left _ hm,e⟩
  ·obtain rfl:k = i:=by omega
   split
   ·rename_i hk
    simp only [zqb,List.any_eq_true,List.mem_range,beq_iff_eq] at hk
    obtain ⟨j,hj,e⟩:=hk
    obtain ⟨m,hm,e2⟩:=yaly ks k j hj
    exact ⟨m,hm,e2.trans e⟩
   ·exact ⟨_,List.mem_append_right _ (List.mem_singleton.2 rfl),rfl⟩
theorem zqq:∀ (l:List Mi) (s:List Int × List St),(∀ m ∈ l,m = ⟨2,m.at_,0⟩) → ∃ g:St → St,zvw s l = (s.1,s.2.map g) ∧ (∀ p,(g p).at_ = p.at_ ∧ (g p).val = p.val ∧ (p.fl = true → (g p).fl = true)) ∧ ∀ p,(∃ m ∈ l,m.at_ / 8 = p.at_ / 8) → (g p).fl = true
 | [],s,_ => ⟨id,by simp [zvw],fun p => ⟨rfl,rfl,id⟩,fun p h => by obtain ⟨m,hm,_⟩:=h; cases hm⟩
 | m :: l,s,h => by
  have hm:=h m (by simp)
  obtain ⟨g,e,h1,h2⟩:=zqq l (s.1,s.2.map (fl1 m.at_)) (fun x hx => h x (by simp [hx]))
  have hf:∀ p:St,(fl1 m.at_ p).at_ = p.at_ ∧ (fl1 m.at_ p).val = p.val ∧ (p.fl = true → (fl1 m.at_ p).fl = true):=fun p => by
   unfold fl1
   split
   ·exact ⟨rfl,rfl,fun _ => rfl⟩
   ·exact ⟨rfl,rfl,id⟩
  refine ⟨fun p => g (fl1 m.at_ p),?_,fun p => ?_,fun p hp => ?_⟩
  ·rw [zlg,hm,yabn]
   show zvw (s.1,s.2.map (fl1 m.at_)) l = _
   rw [e,List.map_map]
   rfl
  ·have a:=h1 (fl1 m.at_ p)
   have b:=hf p
   exact ⟨a.1.trans b.1,a.2.1.trans b.2.1,fun x => a.2.2 (b.2.2 x)⟩
  ·obtain ⟨x,hx,e2⟩:=hp
   rcases List.mem_cons.1 hx with rfl | hx
   ·apply (h1 _).2.2
    unfold fl1
    rw [if_pos e2.symm]
   ·apply h2
    exact ⟨x,hx,by rw [(hf p).1]; exact e2⟩
theorem yaix:∀ (ps:List St) (ws:List Int),(∀ p ∈ ps,p.fl = true) → zjn ws ps = zcq ws ps ∧ zgw ps = []
 | [],_,_ => ⟨rfl,rfl⟩
 | p :: ps,ws,h => by
  have hp:=h p (by simp)
  have ih:=yaix ps (ws.set p.at_.toNat p.val) (fun q hq => h q (by simp [hq]))
  refine ⟨?_,?_⟩
  ·show zjn (if p.fl then ws.set p.at_.toNat p.val else ws) ps = zcq (ws.set p.at_.toNat p.val) ps
   rw [hp]
   exact ih.1
  ·unfold zgw at ih ⊢
   rw [List.filter_cons,hp]
   exact ih.2
theorem yadi (g:St → St) (hg:∀ p,(g p).at_ = p.at_ ∧ (g p).val = p.val):∀ (ps:List St) (ws:List Int),zcq ws (ps.map g) = zcq ws ps
 | [],_ => rfl
 | p :: ps,ws => by
  show zcq (ws.set (g p).at_.toNat (g p).val) (ps.map g) = zcq (ws.set p.at_.toNat p.val) ps
  rw [(hg p).1,(hg p).2]
  exact yadi g hg ps _
theorem zsu:∀ (S:List St) (s:List Int × List St),zvw s (S.map stM) = (s.1,s.2 ++ S.map (fun p => (⟨p.at_,p.val,false⟩:St)))
 | [],s => by simp [zvw]
 | p :: S,s => by
  rw [List.map_cons,zlg,yaba,zsu S]
  simp
theorem yaio (S:List St) (ws:List Int):zvw (ws,[]) (seg S) = (zcq ws S,[]):=by
 have e0:zvw (ws,[]) (S.map stM) = (ws,S.map (fun p => (⟨p.at_,p.val,false⟩:St))):=by rw [zsu]; simp
 unfold seg zcv
 rw [zjt,e0,zjt]
 obtain ⟨g,e,h1,h2⟩:=zqq (nl (S.map (·.at_)) (S.map (·.at_)).length) (ws,S.map (fun p => (⟨p.at_,p.val,false⟩:St))) (zvj _ _)
 rw [e,zlg,yanx,yabl]
 have hall:∀ p ∈ (S.map (fun p => (⟨p.at_,p.val,false⟩:St))).map g,p.fl = true:=by
  intro p hp
  rw [List.map_map,List.mem_map] at hp
  obtain ⟨q,hq,rfl⟩:=hp
  apply h2
  obtain ⟨i,hi,rfl⟩:=List.getElem_of_mem hq
  obtain ⟨m,hm,e2⟩:=yaly (S.map (·.at_)) (S.map (·.at_)).length i (by simpa using hi)
  refine ⟨m,hm,?_⟩
  rw [e2]
  simp [hi]
 have f:=yaix _ ws hall
 show (zjn ws ((S.map (fun p => (⟨p.at_,p.val,false⟩:St))).map g),zgw _) = _
 rw [f.1,f.2,List.map_map,yadi (g ∘ fun p => (⟨p.at_,p.val,false⟩:St)) (fun p => ⟨(h1 _).1,(h1 _).2.1⟩)]
end Go.Proofs.YtlkmnpanddchdaaGreatDoor

namespace Go.Proofs.YtlkmnpanddchdaaGreatDoor
open Go.RowKit
theorem znb (a x:Int) (w:World):Calls Tryz.prog 153 #[.int .i64 a,.int .i64 x] w fun e w' => e = .returned (.agg #[.int .i64 1,.int .i64 a,.int .i64 x]) ∧ Below w.heap.size w w':=by
 go_enter Tryz.func153,Tryz.ntmps153
 go_wp2
 refine bodyPost_ret (v:=.agg #[.int .i64 1,.int .i64 a,.int .i64 x]) (by simp [results,Tryz.results153,go_sem]) rfl ⟨rfl,?_⟩
 repeat (refine Below.alloc ?_ (by simp <;> omega) _)
 exact Below.refl _ _
def upsB (us:List Se):Bool:=decide (∀ k (h:k < us.length),(48 ≤ us[k].at_ ∧ us[k].at_ < 336) ∧ 0 ≤ us[k].val ∧ us[k].val < 1099511627776)
set_option maxRecDepth 100000 in
set_option maxHeartbeats 4000000 in
theorem zre (v:Value) (us:List Se) (w:World) (h:RdE w v us) (hn:us.length ≤ 1048576) :
  Calls Tryz.prog 112 #[v] w fun e w' => e = .returned (.bool (upsB us)) ∧ w' = w:=by
 obtain ⟨aZ,cZ,rfl,_,hcZ⟩:=h.shape
 have HZ:=zaa hcZ
 clear h hcZ
 go_enter Tryz.func112,Tryz.ntmps112
 go_wp2
 go_loop [3] (fun i => ∃ k:Nat,k ≤ us.length ∧ i = .int .i64 k ∧ Hid (∀ j (h:j < us.length),j < k → (48 ≤ us[j].at_ ∧ us[j].at_ < 336) ∧ 0 ≤ us[j].val ∧ us[j].val < 1099511627776)) (fun i => us.length - (intOf i).toNat)
 case atStart => exact ⟨0,by omega,rfl,fun j h a => absurd a (by omega)⟩
 case round =>
  obtain ⟨k,hk,rfl,H⟩:=hrel
  by_cases hlt:k < us.length
  ·obtain ⟨b,o,rfl,hbl,hcell⟩:=HZ.out (by omega)
   obtain ⟨d0,d1⟩:=hcell k hlt
   have k0:(0:Int) ≤ (k:Int):=by omega
   have k1:(k:Int) < (us.length:Int):=by omega
   clear hcell
   have NO:Hid (¬ ((48 ≤ us[k].at_ ∧ us[k].at_ < 336) ∧ 0 ≤ us[k].val ∧ us[k].val < 1099511627776) → upsB us = false):=fun x => decide_eq_false (fun y => x (y k hlt))
   have NX:Hid ((48 ≤ us[k].at_ ∧ us[k].at_ < 336) ∧ 0 ≤ us[k].val ∧ us[k].val < 1099511627776 → ∀ j (h:j < us.length),j < k + 1 → (48 ≤ us[j].at_ ∧ us[j].at_ < 336) ∧ 0 ≤ us[j].val ∧ us[j].val < 1099511627776):=fun hx j h b => by
    by_cases e:j = k
    ·subst e; exact hx
    ·exact H.out j h (by omega)
   generalize us[k].at_ = x at *
   generalize us[k].val = y at *
   by_cases q:48 ≤ x ∧ x ≤ 335
   ·have Q:=zaa q
    clear q
    by_cases r:zao y = true
    ·have R:=zaa r
     have YB:=zlt r
     go_wp2_with (first | (go_at_call 61; refine (zay _ _ _ _ Q.out).mono ?_; rintro e w' ⟨rfl,rfl⟩) | (go_at_call 116; refine (zbf _ _).mono ?_; rw [R.out]; rintro e w' ⟨rfl,rfl⟩))
     go_round
     case rel => exact ⟨k + 1,by omega,by go_num,NX.out (by have:=Q.out; omega)⟩
     case measure => simp [intOf]; omega
    ·have r':zao y = false:=by simpa using r
     have R:=zaa r'
     have E:=zaa (NO.out (fun z => r (decide_eq_true z.2)))
     clear r r'
     go_wp2_with (first | (go_at_call 61; refine (zay _ _ _ _ Q.out).mono ?_; rintro e w' ⟨rfl,rfl⟩) | (go_at_call 116; refine (zbf _ _).mono ?_; rw [R.out]; rintro e w' ⟨rfl,rfl⟩))
     go_ret
     exact ⟨zae E.out.symm,rfl⟩
   ·have Q:=zaa q
    have E:=zaa (NO.out (fun z => q (by omega)))
    clear q
    go_wp2_with (go_at_call 61; refine (zds _ _ _ _ Q.out).mono ?_; rintro e w' ⟨rfl,rfl⟩)
    go_ret
    exact ⟨zae E.out.symm,rfl⟩
  ·have E:=zaa (show upsB us = true from decide_eq_true (fun j h => H.out j h (by omega)))
   go_wp2
   go_ret
   exact ⟨zae E.out.symm,rfl⟩
def zze (us:List Se):List St:=us.map (fun s => up s.at_ s.val)
theorem zit (us:List Se):(zze us).length = us.length:=by simp [zze]
theorem yalf (us:List Se) (k:Nat) (h:k < us.length):(zze us)[k]? = some (up us[k].at_ us[k].val):=by simp [zze,h]
def apM (us:List Se) (m:Nat):List Mi:=((zze us).take m).map stM
def apP (us:List Se) (m:Nat):List Int:=((zze us).take m).map (·.at_)
theorem yabe (us:List Se) (m:Nat):(apM us m).length ≤ m:=by simp [apM]; omega
theorem yalq (us:List Se) (m:Nat):(apP us m).length ≤ m:=by simp [apP]; omega
theorem zwd {α:Type} (l:List α) (m:Nat) (x:α) (h:l[m]? = some x):l.take (m + 1) = l.take m ++ [x]:=by
 rw [List.take_add_one,h]; rfl
theorem yadr (us:List Se) (m:Nat) (h:m < us.length):apM us (m + 1) = apM us m ++ [⟨1,us[m].at_,us[m].val⟩]:=by
 unfold apM; rw [zwd _ _ _ (yalf us m h),List.map_append]; rfl
theorem yaoe (us:List Se) (m:Nat) (h:m < us.length):apP us (m + 1) = apP us m ++ [us[m].at_]:=by
 unfold apP; rw [zwd _ _ _ (yalf us m h),List.map_append]; rfl
theorem yabd (us:List Se):apM us us.length = (zze us).map stM:=by unfold apM; rw [List.take_of_length_le (by rw [zit]; omega)]
theorem yarv (us:List Se):apP us us.length = (zze us).map (·.at_):=by unfold apP; rw [List.take_of_length_le (by rw [zit]; omega)]
theorem yail (us:List Se) (m:Nat) (hz:∀ k (h:k < us.length),0 ≤ us[k].at_ ∧ us[k].at_ < 336):∀ k (h:k < (apP us m).length),0 ≤ (apP us m)[k] ∧ (apP us m)[k] < 336:=by
 intro k h
 have h':=h
 simp only [apP,List.length_map,List.length_take,zit] at h'
 have:=hz k (by omega)
 simpa [apP,zze,up] using this
structure PlI (w0 w:World) (vL vP:Value) (ls:List Mi) (ps:List Int):Prop where
 l:w.ownsRow w0.heap.size 104 3 vL ls.length (mis ls)
 p:w.ownsRow w0.heap.size 3 1 vP ps.length (zav ps)
 b:Below w0.heap.size w0 w
 z:w0.heap.size ≤ w.heap.size
theorem yaup:(3:Nat) ≠ 104:=by decide
theorem PlI.below {w0 w w':World} {vL vP:Value} {ls:List Mi} {ps:List Int} (h:PlI w0 w vL vP ls ps) (hb:Below w.heap.size w w'):PlI w0 w' vL vP ls ps :=
 ⟨((zai h.l).below hb (Nat.le_refl _)).1,((zai h.p).below hb (Nat.le_refl _)).1,zab h.b hb h.z,Nat.le_trans h.z hb.size⟩
theorem PlI.growL {w0 w w':World} {vL vP v':Value} {ls:List Mi} {ps:List Int} (h:PlI w0 w vL vP ls ps) (ms:List Mi) (ho:w'.ownsRow w0.heap.size 104 3 v' (ls.length + ms.length) (mis ls ++ mis ms)) (hg:w.grownBy w' vL.ownBlock):PlI w0 w' v' vP (ls ++ ms) ps :=
 ⟨by rw [ztf,List.length_append]; exact ho,(Row.apart (zai h.p) (zai h.l) yaup hg).1,h.b.grown hg h.z (fun q hq => (h.l.lt q hq).1),Nat.le_trans h.z hg.size⟩
theorem PlI.growP {w0 w w':World} {vL vP v':Value} {ls:List Mi} {ps:List Int} (h:PlI w0 w vL vP ls ps) (ks:List Int) (ho:w'.ownsRow w0.heap.size 3 1 v' (ps.length + ks.length) (zav ps ++ zav ks)) (hg:w.grownBy w' vP.ownBlock):PlI w0 w' vL v' ls (ps ++ ks) :=
 ⟨(Row.apart (zai h.l) (zai h.p) (Ne.symm yaup) hg).1,by rw [List.length_append,show zav (ps ++ ks) = zav ps ++ zav ks by simp [zav]]; exact ho,h.b.grown hg h.z (fun q hq => (h.p.lt q hq).1),Nat.le_trans h.z hg.size⟩
theorem zkx {w w':World} (h:Below w.drew.heap.size w.drew w'):Below w.heap.size w w':=zab ((Below.refl w.heap.size w).drew) h (Nat.le_refl _)
theorem yabx (w1:World) (x:Int):RdI (w1.alloc (.cells #[.int .i64 x] 3)) (.slice (some ⟨w1.heap.size,0,none⟩) 1 1) [x]:=by
 refine ⟨rfl,_,_,rfl,⟨Nat.le_refl _,fun e => by cases e⟩,fun _ => ⟨w1.heap.size,0,rfl,by simp,fun j hj => ?_⟩⟩
 obtain rfl:j = 0:=by simp at hj; omega
 have e:=zag (w:=w1) (o:=.cells #[.int .i64 x] 3) rfl
 unfold World.cell?
 simp only [e]
 rfl
theorem zoi (m:Mi):mis [m] = m.cells:=by simp [mis]
set_option maxRecDepth 100000 in
set_option maxHeartbeats 4000000 in
theorem zzi (v:Value) (us:List Se) (w:World) (h:RdE w v us) (hn:us.length ≤ 64) (hz0:∀ k (h:k < us.length),0 ≤ us[k].at_ ∧ us[k].at_ < 336) :
  Calls Tryz.prog 113 #[v] w fun e w' => ∃ v',e = .returned v' ∧ Row w' 104 3 w.heap.size w'.heap.size v' (zhh (zze us)).length (mis (zhh (zze us))) ∧ Below w.heap.size w w':=by
 obtain ⟨aZ,cZ,rfl,_,hcZ⟩:=h.shape
 have HZ:=zaa hcZ
 have Z0:=zaa hz0
 clear h hcZ hz0
 have START:Hid (PlI w ((w.alloc (.cells #[] 104)).alloc (.cells #[] 3)) (.slice (some ⟨w.heap.size,0,none⟩) 0 0) (.slice (some ⟨w.heap.size + 1,0,none⟩) 0 0) [] []):=by
  refine ⟨?_,?_,((Below.refl w.heap.size w).alloc (Nat.le_refl _) _).alloc (by simp) _,by simp <;> omega⟩
  ·exact ((zqm w 104 3).alloc (Nat.le_refl _) _).1
  ·simpa [zav] using World.ownsRow_lit (base:=w.heap.size) (e:=3) (size:=1) (w.alloc (.cells #[] 104)) #[] 0 (by simp) (by simp) (by simp)
 go_enter Tryz.func113,Tryz.ntmps113
 go_wp2
 go_loopw [3,4,5] (fun vL vP i wr => ∃ m:Nat,m ≤ us.length ∧ i = .int .i64 m ∧ Hid (PlI w wr vL vP (apM us m) (apP us m)) ∧ w.heap.size ≤ wr.heap.size) (fun _ _ i _ => us.length - (intOf i).toNat)
 case atStart => exact ⟨0,by omega,rfl,by simpa [apM,apP] using START,by simp <;> omega⟩
 case round =>
  obtain ⟨m,hm,rfl,J,hz⟩:=hrel
  by_cases hlt:m < us.length
  ·obtain ⟨b,o,rfl,hbl,hcell⟩:=HZ.out (by omega)
   have C0:=(J.out.b.cell (p:=⟨b,o + m * 2,none⟩) hbl).trans (hcell m hlt).1
   have C1:=(J.out.b.cell (p:=⟨b,o + m * 2 + 1,none⟩) hbl).trans (hcell m hlt).2
   have EM:=zaa (yadr us m hlt)
   have EP:=zaa (yaoe us m hlt)
   have l1:=yabe us m
   have l2:=yalq us m
   have hbr:b < wr.heap.size:=by omega
   have DW:=zaa (hcell m hlt)
   clear hcell
   have m0:(0:Int) ≤ (m:Int):=by omega
   have m1:(m:Int) < (us.length:Int):=by omega
   generalize us[m].at_ = x at *
   generalize us[m].val = y at *
   go_wp2_with fail
   go_region_held3 (fun w' => w'.cell? ⟨b,o + m * 2,none⟩ = some (.int .i64 x) ∧ w'.cell? ⟨b,o + m * 2 + 1,none⟩ = some (.int .i64 y)) (first | exact ⟨C0,C1⟩ | exact ⟨s0,s1⟩ | exact ⟨r0,r1⟩ | exact ⟨q0,q1⟩)
    (first
     | (go_at_call 153; refine (znb _ _ _).mono ?_; rintro e w1 ⟨rfl,hb1⟩; have hb1':=zkx hb1; have q0:=(hb1'.cell (p:=⟨b,o + m * 2,none⟩) hbr).trans C0; have q1:=(hb1'.cell (p:=⟨b,o + m * 2 + 1,none⟩) hbr).trans C1; have P1:=zaa ((J.out.below hb1').below ((Below.refl _ _).alloc (Nat.le_refl _) (.cells #[.int .i64 1,.int .i64 x,.int .i64 y] 104))); have HRD:=zaa (zmq w1 1 x y); have r0:=(P1.out.b.cell (p:=⟨b,o + m * 2,none⟩) hbl).trans DW.out.1; have r1:=(P1.out.b.cell (p:=⟨b,o + m * 2 + 1,none⟩) hbl).trans DW.out.2; have hz1:=P1.out.z; clear hb1 hb1')
     | (refine zbw rfl (.tmp 14) (.tmp 26) 48 rfl w.heap.size 104 (.agg #[.int .i64 0,.int .i64 0,.int .i64 0]) 3 24 Tryz.underlying48 zej rfl (by decide) _ _ _ rfl P1.out.l _ 1 _ rfl HRD.out (zjy _) (by simp [maxLen]; omega) (by omega) hz1 ?_; intro vN wN hownN hgrN; have G:=zaa (P1.out.growL [⟨1,x,y⟩] (by rw [zoi]; exact hownN) hgrN); have s0:=(G.out.b.cell (p:=⟨b,o + m * 2,none⟩) hbl).trans DW.out.1; have s1:=(G.out.b.cell (p:=⟨b,o + m * 2 + 1,none⟩) hbl).trans DW.out.2; clear hownN hgrN))
   all_goals
    have hzG:=G.out.z
    clear C0 C1 q0 q1 r0 r1 P1 HRD J
    have P2:=zaa (G.out.below ((Below.refl _ _).alloc (Nat.le_refl _) (.cells #[.int .i64 x] 3)))
    have HR2:=zaa (yabx wN x)
    have hz2:=P2.out.z
    clear G
    go_wp2_with (at_builtin; refine zak _ rfl (.tmp 28) (.tmp 34) 22 rfl w.heap.size 3 (.int .i64 0) 1 8 Tryz.underlying22 zga rfl (by decide) _ _ _ rfl P2.out.p _ 1 _ rfl HR2.out (zed _) (by simp [maxLen]; omega) (by omega) hz2 ?_)
    intro vQ wQ hownQ hgrQ
    have G2:=zaa (P2.out.growP [x] hownQ hgrQ)
    rw [← EM.out,← EP.out] at G2
    have hz3:=G2.out.z
    clear hownQ hgrQ P2 HR2
    go_wp2
    go_roundw
    case rel => exact ⟨m + 1,by omega,by go_num,G2,hz3⟩
    case measure => simp [intOf]; omega
  ·obtain rfl:m = us.length:=by omega
   have PL:=zaa (yail us us.length Z0.out)
   have l1:=yabe us us.length
   have l2:=yalq us us.length
   have EE:=zaa (show zhh (zze us) = apM us us.length ++ zcv (apP us us.length) ++ [⟨1,8,0⟩] ++ zcv [8] by
    rw [yabd,yarv]; simp [zhh,seg,cnt,stM])
   have l3:=zfl (apP us us.length)
   have l4:=zfl [8]
   simp only [List.length_cons,List.length_nil] at l4
   generalize apM us us.length = A at *
   generalize apP us us.length = B at *
   go_wp2_with fail
   refine (zne _ B _ (zai J.out.p).rd (by omega) PL.out).mono ?_
   rintro e w1 ⟨v1,rfl,hr1,hb1⟩
   have P1:=zaa (J.out.below hb1)
   have R1:=zaa hr1.rd
   have hz1:=P1.out.z
   clear hr1 hb1 J
   go_wp2_with (at_builtin; refine zak _ rfl (.tmp 36) (.tmp 38) 48 rfl w.heap.size 104 (.agg #[.int .i64 0,.int .i64 0,.int .i64 0]) 3 24 Tryz.underlying48 zej rfl (by decide) _ _ _ rfl P1.out.l _ _ _ rfl R1.out (zlo _) (by simp [maxLen]; omega) (by omega) hz1 ?_)
   intro v2 w2 hown2 hgr2
   have P2:=zaa (P1.out.growL _ hown2 hgr2)
   have hz2:=P2.out.z
   have l5:(A ++ zcv B).length ≤ 200:=by simp; omega
   generalize A ++ zcv B = C at *
   clear hown2 hgr2 P1 R1
   go_wp2_with fail
   refine (znb _ _ _).mono ?_
   rintro e w3 ⟨rfl,hb3⟩
   have P3:=zaa ((P2.out.below hb3).below ((Below.refl _ _).alloc (Nat.le_refl _) (.cells #[.int .i64 1,.int .i64 8,.int .i64 0] 104)))
   have R3:=zaa (zmq w3 1 8 0)
   have hz3:=P3.out.z
   clear hb3 P2
   go_wp2_with (at_builtin; refine zak _ rfl (.tmp 40) (.tmp 42) 48 rfl w.heap.size 104 (.agg #[.int .i64 0,.int .i64 0,.int .i64 0]) 3 24 Tryz.underlying48 zej rfl (by decide) _ _ _ rfl P3.out.l _ 1 _ rfl R3.out (zjy _) (by simp [maxLen]; omega) (by omega) hz3 ?_)
   intro v4 w4 hown4 hgr4
   have P4:=zaa (P3.out.growL [⟨1,8,0⟩] (by rw [zoi]; exact hown4) hgr4)
   have l6:(C ++ [(⟨1,8,0⟩:Mi)]).length ≤ 201:=by simp; omega
   generalize C ++ [(⟨1,8,0⟩:Mi)] = D at *
   have P5:=zaa (P4.out.below ((Below.refl _ _).alloc (Nat.le_refl _) (.cells #[.int .i64 8] 3)))
   have R5:=zaa (yabx w4 8)
   clear hown4 hgr4 P3 R3 P4
   go_wp2_with fail
   refine (zne _ [8] _ R5.out (by simp) (by intro k h; simp at h; subst h; simp)).mono ?_
   rintro e w6 ⟨v6,rfl,hr6,hb6⟩
   have P6:=zaa (P5.out.below hb6)
   have R6:=zaa hr6.rd
   have hz6:=P6.out.z
   clear hr6 hb6 P5 R5
   go_wp2_with (at_builtin; refine zak _ rfl (.tmp 44) (.tmp 46) 48 rfl w.heap.size 104 (.agg #[.int .i64 0,.int .i64 0,.int .i64 0]) 3 24 Tryz.underlying48 zej rfl (by decide) _ _ _ rfl P6.out.l _ _ _ rfl R6.out (zlo _) (by simp [maxLen]; omega) (by omega) hz6 ?_)
   intro v7 w7 hown7 hgr7
   have P7:=zaa (P6.out.growL _ hown7 hgr7)
   rw [← EE.out] at P7
   obtain ⟨aL,cL,hvL⟩:=RdM.form (zai P7.out.l).rd rfl
   subst hvL
   clear hown7 hgr7 P6 R6
   go_wp2
   go_ret
   exact ⟨_,rfl,zai P7.out.l,P7.out.b⟩
def ldW (ws:List Int) (ps:List St) (k:Nat):Int:=zja (k:Int) (ws[k]?.getD 0) ps
theorem zvz {ws:List Int} {ps:List St} {k:Nat} (h:k < ws.length):ldW ws ps k = zja (k:Int) ws[k] ps:=by unfold ldW; simp [h]
theorem zyd {ws:List Int} {ps:List St} (h:pmB ws ps = true):ws.length = 336:=(zbz h).1
set_option maxRecDepth 100000 in
set_option maxHeartbeats 2000000 in
theorem zht (v:Value) (ws:List Int) (ps:List St) (w:World) (h:RdPm w v ws ps) (hw:ws.length ≤ 1048576) (hp:ps.length ≤ 1048576) (ha:8 < ws.length) :
  Calls Tryz.prog 70 #[v] w fun e w' => e = .returned (.int .i64 (ldW ws ps 8)) ∧ Below w.heap.size w w':=by
 have HR:=zaa h
 obtain ⟨vW,vP,rfl,h1,h2⟩:=h
 obtain ⟨aW,cW,rfl,_⟩:=h1.shape
 obtain ⟨aP,cP,rfl,_⟩:=h2.shape
 clear h1 h2
 have hb0:Below w.heap.size w (w.alloc (.cells #[.slice aW ws.length cW,.slice aP ps.length cP] 40)):=(Below.refl _ _).alloc (Nat.le_refl _) _
 rw [zvz ha]
 go_enter Tryz.func70,Tryz.ntmps70
 go_wp2_with fail
 refine (zjz _ ws ps 8 _ (HR.out.below hb0) hw hp ha).mono ?_
 rintro e w2 ⟨rfl,hb2⟩
 go_wp2
 go_ret
 exact ⟨rfl,zab hb0 hb2 (by simp)⟩
def jcC (ws:List Int) (ps:List St):Int:=if pmB ws ps = false then 1 else if 16 < ldW ws ps 8 then 3 else 0
def jcV (ws:List Int) (ps:List St):Int:=if jcC ws ps = 0 then ldW ws ps 8 else 0
theorem ztz (ws:List Int) (ps:List St):(pmB ws ps = false ∧ jcC ws ps = 1 ∧ jcV ws ps = 0) ∨ (pmB ws ps = true ∧ 16 < ldW ws ps 8 ∧ jcC ws ps = 3 ∧ jcV ws ps = 0) ∨ (pmB ws ps = true ∧ ¬ 16 < ldW ws ps 8 ∧ jcC ws ps = 0 ∧ jcV ws ps = ldW ws ps 8):=by
 by_cases c1:pmB ws ps = true
 ·by_cases c2:16 < ldW ws ps 8
  ·have e:jcC ws ps = 3:=by unfold jcC; rw [if_neg (by rw [c1]; simp),if_pos c2]
   exact .inr (.inl ⟨c1,c2,e,by unfold jcV; rw [e]; rfl⟩)
  ·have e:jcC ws ps = 0:=by unfold jcC; rw [if_neg (by rw [c1]; simp),if_neg c2]
   exact .inr (.inr ⟨c1,c2,e,by unfold jcV; rw [e]; rfl⟩)
 ·have c:pmB ws ps = false:=by simpa using c1
  have e:jcC ws ps = 1:=by unfold jcC; rw [if_pos c]
  exact .inl ⟨c,e,by unfold jcV; rw [e]; rfl⟩
end Go.Proofs.YtlkmnpanddchdaaGreatDoor
