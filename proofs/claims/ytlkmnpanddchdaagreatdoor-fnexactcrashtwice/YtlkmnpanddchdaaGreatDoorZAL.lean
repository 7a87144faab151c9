/- Several texts laid together: FqA, AnA, FqB. -/
import Derived.Test.YtlkmnpanddchdaaGreatDoorZAK
namespace Go.Proofs.YtlkmnpanddchdaaGreatDoor
open Go.RowKit
theorem zum {w:World} {b i:Nat} {x:Value} (hx:w.cell? ⟨b,i,none⟩ = some x) (u:Value) (j:Nat):(w.setCell ⟨b,i,none⟩ u).cell? ⟨b,j,none⟩ = if j = i then some u else w.cell? ⟨b,j,none⟩:=by
 unfold World.cell? at hx ⊢
 simp only [World.setCell,Array.getElem?_modify]
 cases hw:w.heap[b]? with
 | none => rw [hw] at hx; cases hx
 | some ob =>
  rw [hw] at hx
  cases ob with
  | cells cs t fr =>
   simp only [Option.isSome_none,Bool.false_eq_true,if_false] at hx
   simp only [if_true,Option.map_some,Option.isSome_none,Bool.false_eq_true,if_false]
   rw [Array.getElem?_setIfInBounds]
   have hlt:i < cs.size:=(Array.getElem?_eq_some_iff.1 hx).1
   by_cases e:i = j
   ·subst e; simp [hlt]
   ·rw [if_neg e,if_neg (fun h => e h.symm)]
  | _ => cases hx
theorem zmf (w:World) (b i:Nat) (u:Value) (k j:Nat):(w.setCell ⟨b,i,none⟩ u).frozen? ⟨k,j,none⟩ = w.frozen? ⟨k,j,none⟩:=by
 unfold World.frozen?
 simp only [World.setCell,Array.getElem?_modify]
 by_cases e:b = k
 ·subst e
  cases hw:w.heap[b]? with
  | none => simp
  | some ob => cases ob <;> simp
 ·simp [e]
def RowW (w:World) (lo hi:Nat) (v:Value) (td:List Mi):Prop:=RdM w v td ∧ (∀ b,v.ownBlock = some b → lo ≤ b ∧ b < hi ∧ b < w.heap.size ∧ (∀ j,w.frozen? ⟨b,j,none⟩ = false) ∧ ∃ o n c,v = .slice (some ⟨b,o,none⟩) n c)
theorem RowW.same {w w':World} {lo hi:Nat} {v:Value} {td:List Mi} (h:RowW w lo hi v td) (hz:w.heap.size ≤ w'.heap.size) (hs:∀ b,lo ≤ b → b < hi → b < w.heap.size → w'.heap[b]? = w.heap[b]?):RowW w' lo hi v td :=
 ⟨Rd.same h.1 hz (fun b hb e => hs b (h.2 b e).1 (h.2 b e).2.1 hb),fun b e => by
  obtain ⟨h1,h2,h3,h4,h5⟩:=h.2 b e
  refine ⟨h1,h2,Nat.lt_of_lt_of_le h3 hz,fun j => ?_,h5⟩
  have:=h4 j
  unfold World.frozen? at this ⊢
  simp only [hs b h1 h2 h3]
  exact this⟩
theorem RowW.below {w w':World} {lo hi:Nat} {v:Value} {td:List Mi} (h:RowW w lo hi v td) {B:Nat} (hb:Below B w w') (hB:hi ≤ B):RowW w' lo hi v td:=h.same hb.size (fun b _ h2 _ => hb.block b (by omega))
theorem RowW.outside {w w':World} {lo hi:Nat} {v:Value} {td:List Mi} (h:RowW w lo hi v td) {lo' hi':Nat} (ho:Outside lo' hi' w w') (hd:hi ≤ lo' ∨ hi' ≤ lo):RowW w' lo hi v td:=h.same ho.size (fun b h1 h2 h3 => ho.block b h3 (by omega))
theorem RowW.wide {w:World} {lo hi:Nat} {v:Value} {td:List Mi} (h:RowW w lo hi v td) {lo' hi':Nat} (h1:lo' ≤ lo) (h2:hi ≤ hi'):RowW w lo' hi' v td:=⟨h.1,fun b e => by obtain ⟨a,b',c,d⟩:=h.2 b e; exact ⟨by omega,by omega,c,d⟩⟩
theorem RowW.nil (w:World) (lo hi:Nat):RowW w lo hi (.slice none 0 0) []:=⟨(Row.nil w 104 3 lo hi).rd,fun b e => by cases e⟩
theorem RowW.of_row {w:World} {lo hi:Nat} {v:Value} {td:List Mi} (h:Row w 104 3 lo hi v td.length (mis td)):RowW w lo hi v td:=by
 refine ⟨h.rd,fun b e => ?_⟩
 rcases h.shape with ⟨rfl,_⟩ | ⟨b',cap,rfl,_,_⟩
 ·cases e
 ·cases e
  obtain ⟨_,h1,h2,h3,h4,_⟩:=h.at
  exact ⟨h1,h2,(h.1.lt _ rfl).2,h4,_,_,_,rfl⟩
theorem zru (ao:Option Addr) (cap:Nat) (k0:Int) (w:World):Calls Tryz.prog 40 #[.slice ao 0 cap,.int .i64 k0] w fun e w' => e = .returned (.int .i64 k0) ∧ w' = w:=by
 go_enter Tryz.func40,Tryz.ntmps40
 go_wp2
 go_loop [1,5] (fun c i => i = .int .i64 0 ∧ c = .int .i64 k0) (fun _ i => (intOf i).toNat)
 case atStart => exact ⟨rfl,rfl⟩
 case round =>
  obtain ⟨rfl,rfl⟩:=hrel
  go_wp2
  go_ret
  exact ⟨rfl,rfl⟩
set_option maxHeartbeats 4000000 in
theorem zrd (v:Value) (td:List Mi) (k0:Int) (lo hi:Nat) (w:World) (h:RowW w lo hi v td) (hn:td.length ≤ 2147483648) (h0:0 ≤ k0) (h1:k0 ≤ 1099511627776) :
  Calls Tryz.prog 40 #[v,.int .i64 k0] w fun e w' => e = .returned (.int .i64 (k0 + 3 * td.length)) ∧ RowW w' lo hi v (zgf k0 td.length) ∧ Outside lo hi w w':=by
 obtain ⟨⟨hlen,ao,cap,rfl,hcap,hc⟩,hw⟩:=h
 obtain ⟨n,hn'⟩:∃ n,n = td.length:=⟨_,rfl⟩
 rw [← hn'] at hlen hcap hc hn hw ⊢
 have hx:IsMis (mis td) n:=by rw [hn']; exact yawm td
 by_cases hp:0 < n
 ·obtain ⟨b,o,rfl,hbl,hcell⟩:=hc hp
  obtain ⟨g1,g2,-,g4,-⟩:=hw b rfl
  clear hc hn'
  generalize mis td = xs at *
  have X0:Hid (∀ j,j < n * 3 → w.cell? ⟨b,o + j,none⟩ = xs[j]?):=hcell
  have F0:Hid (∀ j,w.frozen? ⟨b,j,none⟩ = false):=g4
  clear hcell g4 hw
  go_enter Tryz.func40,Tryz.ntmps40
  go_wp2
  go_loopw [1,5] (fun c i wr => ∃ k:Nat,k ≤ n ∧ i = .int .i64 k ∧ c = .int .i64 (k0 + 3 * k) ∧ Hid (∃ ys:List Value,ys.length = n * 3 ∧ (∀ j,j < n * 3 → wr.cell? ⟨b,o + j,none⟩ = ys[j]?) ∧ IsMis ys n ∧ (∀ j,j < k * 3 → ys[j]? = (mis (zgf k0 n))[j]?) ∧ (∀ j,wr.frozen? ⟨b,j,none⟩ = false) ∧ Outside b (b + 1) w wr)) (fun _ i _ => n - (intOf i).toNat)
  case atStart => exact ⟨0,by omega,rfl,by simp,⟨xs,hlen,X0.out,hx,fun j hj => absurd hj (by omega),F0.out,Outside.refl _ _ _⟩⟩
  case round =>
   obtain ⟨k,hk,rfl,rfl,I⟩:=hrel
   clear hx X0 F0
   obtain ⟨ys,hl,hcl,hys,hd,hfr,hout⟩:=I.out
   clear I
   by_cases hlt:k < n
   ·obtain ⟨x,y,z,q0,q1,q2⟩:=hys k hlt
    have f0:=hfr (o + k * 3)
    have f1:=hfr (o + k * 3 + 1)
    have f2:=hfr (o + k * 3 + 2)
    have e0:=(hcl (k * 3) (by omega)).trans q0
    have e1:=(hcl (k * 3 + 1) (by omega)).trans q1
    have e2:=(hcl (k * 3 + 2) (by omega)).trans q2
    rw [← Nat.add_assoc] at e1 e2
    have IH:=zaa (hys.put3 hl k (k0 + 3 * k) (k0 + 3 * k + 1) (k0 + 3 * k + 1 + 1))
    have DH:Hid (∀ j,j < (k + 1) * 3 → (put3 ys k (.int .i64 (k0 + 3 * k)) (.int .i64 (k0 + 3 * k + 1)) (.int .i64 (k0 + 3 * k + 1 + 1)))[j]? = (mis (zgf k0 n))[j]?):=by
     have hk':k < (zgf k0 n).length:=by rw [zby]; exact hlt
     have:=zsb (ps:=zgf k0 n) hk' (by rw [zby]; exact hl) hd
     rw [zyn] at this
     exact this
    obtain ⟨w1,hw1⟩:∃ w1,w1 = wr.setCell ⟨b,o + k * 3,none⟩ (.int .i64 (k0 + 3 * k)):=⟨_,rfl⟩
    obtain ⟨w2,hw2⟩:∃ w2,w2 = w1.setCell ⟨b,o + k * 3 + 1,none⟩ (.int .i64 (k0 + 3 * k + 1)):=⟨_,rfl⟩
    obtain ⟨w3,hw3⟩:∃ w3,w3 = w2.setCell ⟨b,o + k * 3 + 2,none⟩ (.int .i64 (k0 + 3 * k + 1 + 1)):=⟨_,rfl⟩
    have C1:∀ j,w1.cell? ⟨b,j,none⟩ = if j = o + k * 3 then some (.int .i64 (k0 + 3 * k)) else wr.cell? ⟨b,j,none⟩:=fun j => by rw [hw1]; exact zum e0 _ j
    have C2:∀ j,w2.cell? ⟨b,j,none⟩ = if j = o + k * 3 + 1 then some (.int .i64 (k0 + 3 * k + 1)) else w1.cell? ⟨b,j,none⟩:=fun j => by rw [hw2]; exact zum (by rw [C1,if_neg (by omega)]; exact e1) _ j
    have C3:∀ j,w3.cell? ⟨b,j,none⟩ = if j = o + k * 3 + 2 then some (.int .i64 (k0 + 3 * k + 1 + 1)) else w2.cell? ⟨b,j,none⟩:=fun j => by rw [hw3]; exact zum (by rw [C2,if_neg (by omega),C1,if_neg (by omega)]; exact e2) _ j
    have CH:Hid (∀ j,j < n * 3 → w3.cell? ⟨b,o + j,none⟩ = (put3 ys k (.int .i64 (k0 + 3 * k)) (.int .i64 (k0 + 3 * k + 1)) (.int .i64 (k0 + 3 * k + 1 + 1)))[j]?):=fun j hj => by
     rw [C3,C2,C1,zgt (by omega)]
     by_cases a2:j = k * 3 + 2
     ·rw [if_pos (by omega),if_pos a2]
     ·by_cases a1:j = k * 3 + 1
      ·rw [if_neg (by omega),if_pos (by omega),if_neg a2,if_pos a1]
      ·by_cases a:j = k * 3
       ·rw [if_neg (by omega),if_neg (by omega),if_pos (by omega),if_neg a2,if_neg a1,if_pos a]
       ·rw [if_neg (by omega),if_neg (by omega),if_neg (by omega),if_neg a2,if_neg a1,if_neg a]
        exact hcl j hj
    have FH:Hid (∀ j,w3.frozen? ⟨b,j,none⟩ = false):=fun j => by rw [hw3,zmf,hw2,zmf,hw1,zmf]; exact hfr j
    have OH:Hid (Outside b (b + 1) w w3):=by
     rw [hw3,hw2,hw1]
     exact ((hout.setCell (a:=⟨b,_,none⟩) (Nat.le_refl _) (Nat.lt_succ_self _) _).setCell (a:=⟨b,_,none⟩) (Nat.le_refl _) (Nat.lt_succ_self _) _).setCell (a:=⟨b,_,none⟩) (Nat.le_refl _) (Nat.lt_succ_self _) _
    have LH:Hid ((put3 ys k (.int .i64 (k0 + 3 * k)) (.int .i64 (k0 + 3 * k + 1)) (.int .i64 (k0 + 3 * k + 1 + 1))).length = n * 3):=by rw [yane]; exact hl
    rw [hw2,hw1] at hw3
    clear hys hd hfr hcl q0 q1 q2 C1 C2 C3 hw1 hw2 w1 w2 hout hl
    go_wp2
    rw [← hw3]
    go_roundw
    case rel => exact ⟨k + 1,by omega,by go_num,by go_num,⟨_,LH.out,CH.out,IH.out,DH.out,FH.out,OH.out⟩⟩
    case measure => simp [intOf]; omega
   ·have e:k = n:=by omega
    subst e
    have e:=yahz (ps:=zgf k0 k) (by rw [zby]; exact hl) (by rw [zby]; exact hd)
    have CC:=zaa hcl
    have FF:=zaa hfr
    have OO:=zaa hout
    clear hys hd hcl hfr hout
    go_wp2
    go_ret
    rw [e] at CC
    have hz:=OO.out.size
    refine ⟨rfl,⟨⟨?_,some ⟨b,o,none⟩,cap,?_,?_,fun _ => ⟨b,o,rfl,by omega,?_⟩⟩,fun b' e' => ?_⟩,OO.out.mono g1 (by omega)⟩
    ·rw [zby,yabb,zby]
    ·rw [zby]
    ·rw [zby]; exact hcap
    ·rw [zby]; exact CC.out
    ·cases e'
     exact ⟨g1,g2,Nat.lt_of_lt_of_le hbl hz,FF.out,_,_,_,rfl⟩
 ·obtain rfl:n = 0:=by omega
  refine (zru ao cap k0 w).mono ?_
  rintro e w' ⟨rfl,rfl⟩
  exact ⟨by simp,⟨⟨rfl,ao,cap,rfl,hcap,fun h => absurd h (by simp [zgf])⟩,hw⟩,Outside.refl _ _ _⟩
def RdF (w:World) (v:Value) (ws:List Int) (ps:List St) (es:List Int) (qs:List Se) (hs:List Int) (td:List Mi) (cd vl:Int) (nm:List ByteArray) (fr:Bool):Prop :=
 ∃ aW cW aP cP aS cS aQ cQ aH cH aT cT aN cN,v = .agg #[.slice aW ws.length cW,.slice aP ps.length cP,.slice aS es.length cS,.slice aQ qs.length cQ,.slice aH hs.length cH,.slice aT td.length cT,.int .i64 cd,.int .i64 vl,.slice aN nm.length cN,.bool fr] ∧ RdDev w (.agg #[.slice aW ws.length cW,.slice aP ps.length cP,.slice aS es.length cS,.slice aQ qs.length cQ]) ws ps es qs ∧ RdI w (.slice aH hs.length cH) hs ∧ RdM w (.slice aT td.length cT) td ∧ RdT w (.slice aN nm.length cN) nm
theorem RdF.below {w w':World} {v:Value} {ws:List Int} {ps:List St} {es:List Int} {qs:List Se} {hs:List Int} {td:List Mi} {cd vl:Int} {nm:List ByteArray} {fr:Bool} (h:RdF w v ws ps es qs hs td cd vl nm fr) (s:Below w.heap.size w w'):RdF w' v ws ps es qs hs td cd vl nm fr:=by
 obtain ⟨aW,cW,aP,cP,aS,cS,aQ,cQ,aH,cH,aT,cT,aN,cN,rfl,a,b,c,d⟩:=h
 exact ⟨aW,cW,aP,cP,aS,cS,aQ,cQ,aH,cH,aT,cT,aN,cN,rfl,a.below s,Rd.below b s,Rd.below c s,Rd.below d s⟩
structure FarF (lo hi ld ud lh uh lt ut ln un:Nat):Prop where
 d0:lo ≤ ld
 d1:ud ≤ hi
 h0:lo ≤ lh
 h1:uh ≤ hi
 t0:lo ≤ lt
 t1:ut ≤ hi
 n0:lo ≤ ln
 n1:un ≤ hi
 dh:ud ≤ lh ∨ uh ≤ ld
 dt:ud ≤ lt ∨ ut ≤ ld
 dn:ud ≤ ln ∨ un ≤ ld
 ht:uh ≤ lt ∨ ut ≤ lh
 hn:uh ≤ ln ∨ un ≤ lh
 tn:ut ≤ ln ∨ un ≤ lt
def RowF (w:World) (lo hi:Nat) (v:Value) (ws:List Int) (ps:List St) (es:List Int) (qs:List Se) (hs:List Int) (td:List Mi) (cd vl:Int) (nm:List ByteArray) (fr:Bool):Prop :=
 ∃ vW vP vS vQ vH vT vN ld ud lh uh lt ut ln un,v = .agg #[vW,vP,vS,vQ,vH,vT,.int .i64 cd,.int .i64 vl,vN,.bool fr] ∧ RowDev w ld ud (.agg #[vW,vP,vS,vQ]) ws ps es qs ∧ Row w 3 1 lh uh vH hs.length (zav hs) ∧ RowW w lt ut vT td ∧ Row w 9 1 ln un vN nm.length (zlj nm) ∧ FarF lo hi ld ud lh uh lt ut ln un
theorem RowF.rd {w:World} {lo hi:Nat} {v:Value} {ws:List Int} {ps:List St} {es:List Int} {qs:List Se} {hs:List Int} {td:List Mi} {cd vl:Int} {nm:List ByteArray} {fr:Bool} (h:RowF w lo hi v ws ps es qs hs td cd vl nm fr):RdF w v ws ps es qs hs td cd vl nm fr:=by
 obtain ⟨vW,vP,vS,vQ,vH,vT,vN,ld,ud,lh,uh,lt,ut,ln,un,rfl,a,b,c,d,-⟩:=h
 obtain ⟨aW,cW,aP,cP,aS,cS,aQ,cQ,e,-,-⟩:=a.rd.form
 cases e
 obtain ⟨-,aH,cH,rfl,-⟩:=b.rd
 obtain ⟨-,aT,cT,rfl,-⟩:=c.1
 obtain ⟨-,aN,cN,rfl,-⟩:=d.rd
 exact ⟨aW,cW,aP,cP,aS,cS,aQ,cQ,aH,cH,aT,cT,aN,cN,rfl,a.rd,b.rd,c.1,d.rd⟩
theorem RowF.below {w w':World} {lo hi:Nat} {v:Value} {ws:List Int} {ps:List St} {es:List Int} {qs:List Se} {hs:List Int} {td:List Mi} {cd vl:Int} {nm:List ByteArray} {fr:Bool} (h:RowF w lo hi v ws ps es qs hs td cd vl nm fr) {B:Nat} (hb:Below B w w') (hB:hi ≤ B):RowF w' lo hi v ws ps es qs hs td cd vl nm fr:=by
 obtain ⟨vW,vP,vS,vQ,vH,vT,vN,ld,ud,lh,uh,lt,ut,ln,un,rfl,a,b,c,d,f⟩:=h
 have:=f.d1; have:=f.h1; have:=f.t1; have:=f.n1
 exact ⟨vW,vP,vS,vQ,vH,vT,vN,ld,ud,lh,uh,lt,ut,ln,un,rfl,a.below hb (by omega),b.below hb (by omega),c.below hb (by omega),d.below hb (by omega),f⟩
theorem RowF.outside {w w':World} {lo hi:Nat} {v:Value} {ws:List Int} {ps:List St} {es:List Int} {qs:List Se} {hs:List Int} {td:List Mi} {cd vl:Int} {nm:List ByteArray} {fr:Bool} (h:RowF w lo hi v ws ps es qs hs td cd vl nm fr) {lo' hi':Nat} (ho:Outside lo' hi' w w') (hd:hi ≤ lo' ∨ hi' ≤ lo) (hz:hi ≤ w.heap.size):RowF w' lo hi v ws ps es qs hs td cd vl nm fr:=by
 obtain ⟨vW,vP,vS,vQ,vH,vT,vN,ld,ud,lh,uh,lt,ut,ln,un,rfl,a,b,c,d,f⟩:=h
 have:=f.d0; have:=f.h0; have:=f.t0; have:=f.n0
 have:=f.d1; have:=f.h1; have:=f.t1; have:=f.n1
 exact ⟨vW,vP,vS,vQ,vH,vT,vN,ld,ud,lh,uh,lt,ut,ln,un,rfl,a.outside ho (by omega) (by omega),b.outside ho (by omega) (by omega),c.outside ho (by omega),d.outside ho (by omega) (by omega),f⟩
theorem RowF.wide {w:World} {lo hi:Nat} {v:Value} {ws:List Int} {ps:List St} {es:List Int} {qs:List Se} {hs:List Int} {td:List Mi} {cd vl:Int} {nm:List ByteArray} {fr:Bool} (h:RowF w lo hi v ws ps es qs hs td cd vl nm fr) {lo' hi':Nat} (p:lo' ≤ lo) (q:hi ≤ hi'):RowF w lo' hi' v ws ps es qs hs td cd vl nm fr:=by
 obtain ⟨vW,vP,vS,vQ,vH,vT,vN,ld,ud,lh,uh,lt,ut,ln,un,rfl,a,b,c,d,f⟩:=h
 exact ⟨vW,vP,vS,vQ,vH,vT,vN,ld,ud,lh,uh,lt,ut,ln,un,rfl,a,b,c,d,⟨Nat.le_trans p f.d0,Nat.le_trans f.d1 q,Nat.le_trans p f.h0,Nat.le_trans f.h1 q,Nat.le_trans p f.t0,Nat.le_trans f.t1 q,Nat.le_trans p f.n0,Nat.le_trans f.n1 q,f.dh,f.dt,f.dn,f.ht,f.hn,f.tn⟩⟩
theorem RowF.zero (w:World) (lo:Nat):RowF w lo lo (.agg #[.slice none 0 0,.slice none 0 0,.slice none 0 0,.slice none 0 0,.slice none 0 0,.slice none 0 0,.int .i64 0,.int .i64 0,.slice none 0 0,.bool false]) [] [] [] [] [] [] 0 0 [] false :=
 ⟨_,_,_,_,_,_,_,lo,lo,lo,lo,lo,lo,lo,lo,rfl,⟨_,_,_,_,lo,lo,lo,lo,rfl,⟨_,_,rfl,Row.nil _ _ _ _ _,Row.nil _ _ _ _ _⟩,⟨_,_,rfl,⟨3,by decide,Row.nil _ _ _ _ _⟩,Row.nil _ _ _ _ _⟩,by omega⟩,Row.nil _ _ _ _ _,RowW.nil _ _ _,Row.nil _ _ _ _ _,⟨Nat.le_refl _,Nat.le_refl _,Nat.le_refl _,Nat.le_refl _,Nat.le_refl _,Nat.le_refl _,Nat.le_refl _,Nat.le_refl _,by omega,by omega,by omega,by omega,by omega,by omega⟩⟩
theorem RowF.form {w:World} {lo hi:Nat} {v:Value} {ws:List Int} {ps:List St} {es:List Int} {qs:List Se} {hs:List Int} {td:List Mi} {cd vl:Int} {nm:List ByteArray} {fr:Bool} (h:RowF w lo hi v ws ps es qs hs td cd vl nm fr):∃ aW cW aP cP aS cS aQ cQ aH cH aT cT aN cN,v = .agg #[.slice aW ws.length cW,.slice aP ps.length cP,.slice aS es.length cS,.slice aQ qs.length cQ,.slice aH hs.length cH,.slice aT td.length cT,.int .i64 cd,.int .i64 vl,.slice aN nm.length cN,.bool fr]:=by
 obtain ⟨aW,cW,aP,cP,aS,cS,aQ,cQ,aH,cH,aT,cT,aN,cN,rfl,-⟩:=h.rd
 exact ⟨aW,cW,aP,cP,aS,cS,aQ,cQ,aH,cH,aT,cT,aN,cN,rfl⟩
set_option maxRecDepth 100000 in
set_option maxHeartbeats 4000000 in
theorem zvq (c v:Int) (va vb:Value) (ss:List ByteArray) (w:World) (ha:RdT w va ss) (hb:RdT w vb ss) (hn:ss.length ≤ 2147483648) :
  Calls Tryz.prog 39 #[.agg #[.int .i64 c,.int .i64 v,va],.agg #[.int .i64 c,.int .i64 v,vb]] w fun e w' => e = .returned (.bool true) ∧ Below w.heap.size w w':=by
 have LE:=zaa (fun w1 (h:Below w.heap.size w w1) => zrh va vb ss w1 (Rd.below ha h) (Rd.below hb h) hn)
 obtain ⟨-,aa,ca,rfl,-⟩:=ha
 obtain ⟨-,ab,cb,rfl,-⟩:=hb
 have BW:Hid (Below w.heap.size w ((w.alloc (.cells #[.int .i64 c,.int .i64 v,.slice aa ss.length ca] 49)).alloc (.cells #[.int .i64 c,.int .i64 v,.slice ab ss.length cb] 49))):=((Below.refl _ _).alloc (Nat.le_refl _) _).alloc (by simp) _
 go_enter Tryz.func39,Tryz.ntmps39
 go_wp2_with fail
 refine (LE.out _ BW.out).mono ?_
 rintro e w1 ⟨rfl,hb1⟩
 have B1:=zaa (zab BW.out hb1 BW.out.size)
 clear hb1
 go_wp2
 go_ret
 exact ⟨rfl,B1.out⟩
set_option maxRecDepth 100000 in
set_option maxHeartbeats 4000000 in
theorem zqu (c v:Int) (vN:Value) (ss:List ByteArray) (k0:Int) (lo hi:Nat) (w:World) (h:Row w 9 1 lo hi vN ss.length (zlj ss)) (hz:hi ≤ w.heap.size) (hn:ss.length ≤ 16777216) (h0:0 ≤ k0) (h1:k0 ≤ 1099511627776) :
  Calls Tryz.prog 41 #[.agg #[.int .i64 c,.int .i64 v,vN],.int .i64 k0] w fun e w' => e = .returned (.int .i64 (k0 + ss.length)) ∧ Row w' 9 1 lo hi vN ss.length (zlj (zev k0 ss.length)) ∧ ∃ wa,Below w.heap.size w wa ∧ hi ≤ wa.heap.size ∧ wa.grownBy w' vN.ownBlock:=by
 obtain ⟨-,aa,ca,rfl,-⟩:=h.rd
 have BW:Hid (Below w.heap.size w (w.alloc (.cells #[.int .i64 c,.int .i64 v,.slice aa ss.length ca] 49))):=(Below.refl _ _).alloc (Nat.le_refl _) _
 have LM:=zaa (zqc (.slice aa ss.length ca) ss k0 lo hi (w.alloc (.cells #[.int .i64 c,.int .i64 v,.slice aa ss.length ca] 49)) (h.below BW.out hz) (Nat.le_trans hz BW.out.size) hn h0 h1)
 have hz2:hi ≤ (w.alloc (.cells #[.int .i64 c,.int .i64 v,.slice aa ss.length ca] 49)).heap.size:=Nat.le_trans hz BW.out.size
 have Z2:=zaa hz2
 clear h hz hz2
 go_enter Tryz.func41,Tryz.ntmps41
 go_wp2_with fail
 refine LM.out.mono ?_
 rintro e w1 ⟨rfl,hr1,hg1,-⟩
 have R1:=zaa hr1
 have G1:=zaa hg1
 clear hr1 hg1 LM
 go_wp2
 go_ret
 exact ⟨rfl,R1.out,_,BW.out,Z2.out,G1.out⟩
set_option maxRecDepth 100000 in
set_option maxHeartbeats 4000000 in
theorem zrk (c v:Int) (vN:Value) (n:Nat) (k0:Int) (w:World) (h:RdT w vN (zev k0 n)) (hn:n ≤ 16777216) (h0:0 ≤ k0) (h1:k0 ≤ 1099511627776) :
  Calls Tryz.prog 60 #[.agg #[.int .i64 c,.int .i64 v,vN],.int .i64 k0] w fun e w' => e = .returned (.int .i64 (k0 + n)) ∧ Below w.heap.size w w':=by
 have LH:=zaa (fun w1 (hb:Below w.heap.size w w1) => zqh vN n k0 w1 (Rd.below h hb) hn h0 h1)
 obtain ⟨-,aa,ca,e,-⟩:=h
 rw [zcx] at e
 subst e
 have BW:Hid (Below w.heap.size w (w.alloc (.cells #[.int .i64 c,.int .i64 v,.slice aa n ca] 49))):=(Below.refl _ _).alloc (Nat.le_refl _) _
 have q:¬ k0 + (n:Int) < 0:=by omega
 go_enter Tryz.func60,Tryz.ntmps60
 go_wp2_with fail
 refine (LH.out _ BW.out).mono ?_
 rintro e w1 ⟨rfl,hb1⟩
 have B1:=zaa (zab BW.out hb1 BW.out.size)
 clear hb1
 go_wp2
 go_ret
 exact ⟨rfl,B1.out⟩
theorem zva {w:World} {g:Nat} {zs:List ByteArray} {f:Nat → Value} {lo hi:Nat} (h:w.rowIs g 9 zs.length f) (hf:∀ i (h:i < zs.length),f i = .string zs[i]) (h1:lo ≤ g) (h2:g < hi) (hm:zs.length ≤ maxLen) :
  Row w 9 1 lo hi (.slice (some ⟨g,0,none⟩) zs.length zs.length) zs.length (zlj zs):=by
 obtain ⟨c,hb,hn,hc⟩:=h
 refine ⟨⟨by simp [zlj],.inr ⟨g,zs.length,c,rfl,h1,hb,Nat.le_refl _,hm,by omega,?_⟩⟩,fun k hk => by cases hk; exact h2⟩
 apply List.ext_getElem?
 intro i
 by_cases hi:i < zs.length
 ·rw [List.getElem?_take,if_pos (by omega),zts zs i hi,Array.getElem?_toList,hc i hi,hf i hi]
 ·rw [List.getElem?_eq_none (by simp; omega),List.getElem?_eq_none (by simp [zlj]; omega)]
set_option maxHeartbeats 2000000 in
theorem zvi (v:Value) (zs:List ByteArray) (w:World) (h:RdT w v zs) (hn:zs.length ≤ 1048576) :
  Calls Tryz.prog 76 #[v] w fun e w' => ∃ v',e = .returned v' ∧ Row w' 9 1 w.heap.size w'.heap.size v' zs.length (zlj zs) ∧ Below w.heap.size w w':=by
 obtain ⟨ao,cap,rfl,hcap,hc⟩:=h.shape
 have hmk:=run_make_row' (P:=Tryz.prog) 32 9 (.string ⟨#[]⟩) 16 Tryz.underlying32 yauq rfl .i64 .i64 zs.length (by omega) (by omega)
 go_enter Tryz.func76,Tryz.ntmps76
 go_wp2
 go_loopw [4] (fun i wr => ∃ k:Nat,k ≤ zs.length ∧ i = .int .i64 k ∧ wr.rowIs w.heap.size 9 zs.length (fun j => if h:j < k ∧ j < zs.length then .string zs[j] else .string ⟨#[]⟩) ∧ Below w.heap.size w wr ∧ wr.heap.size = w.heap.size + 1) (fun i _ => zs.length - (intOf i).toNat)
 case atStart =>
  refine ⟨0,by omega,rfl,?_,(Below.refl _ _).alloc (Nat.le_refl _) _,by simp⟩
  exact (World.rowIs_made w (.string ⟨#[]⟩) zs.length 9).congr (fun i hi => by simp)
 case round =>
  obtain ⟨k,hk,rfl,hrow,hb,hz⟩:=hrel
  by_cases hlt:k < zs.length
  ·obtain ⟨b,o,rfl,hbl,hcell⟩:=hc (by omega)
   have hck:wr.cell? ⟨b,o + k,none⟩ = some (.string zs[k]):=(hb.cell (p:=⟨b,o + k,none⟩) hbl).trans (hcell k hlt)
   have hfr:=hrow.frozen k
   have hce:=hrow.cell hlt
   have R:=hrow.set k (.string zs[k])
   have B:=hb.setCell (p:=⟨w.heap.size,k,none⟩) (Nat.le_refl _) (.string zs[k])
   have RH:=zaa R
   have BH:=zaa B
   clear R B hrow hcell hc
   go_wp2
   go_roundw
   case rel =>
    refine ⟨k + 1,by omega,by go_num,RH.out.congr (fun j hj => ?_),BH.out,by simp [hz]⟩
    by_cases e:j = k
    ·subst e; simp [hj]
    ·by_cases e2:j < k
     ·simp [e,e2,hj,show j < k + 1 by omega]
     ·simp [e,e2,show ¬ j < k + 1 by omega]
   case measure => simp [intOf]; omega
  ·have e:k = zs.length:=by omega
   subst e
   go_wp2
   go_ret
   refine ⟨_,rfl,zva hrow (fun i hi => by simp [hi]) (Nat.le_refl _) (by omega) (by simp [maxLen]; omega),hb⟩
set_option maxHeartbeats 2000000 in
theorem zuz (ao:Option Addr) (ss:List ByteArray) (cap:Nat) (left:Int) (w:World) (h:RdT w (.slice ao ss.length cap) ss) (hn:ss.length ≤ maxLen) (hs:∀ k (hk:k < ss.length),ss[k].size ≤ maxLen) (h0:0 ≤ left) (h1:left ≤ 1048576) :
  Calls Tryz.prog 65 #[.slice ao ss.length cap,.int .i64 left] w fun e w' => ∃ r:Int,e = .returned (.int .i64 r) ∧ (0 ≤ r → ss.length ≤ 1048576 ∧ r ≤ 1048576) ∧ -1 ≤ r ∧ w' = w:=by
 obtain ⟨ao',cap',e,hcap,hc⟩:=h.shape
 cases e
 unfold maxLen at hn hs
 clear h
 have HC:=zaa hc
 have HS:=zaa hs
 clear hc hs hcap
 by_cases c:left < (ss.length:Int)
 ·have c':left - (ss.length:Int) < 0:=by omega
  go_enter Tryz.func65,Tryz.ntmps65
  go_wp2
  go_ret
  exact ⟨-1,rfl,fun h => absurd h (by decide),by decide,rfl⟩
 ·have c':¬ left - (ss.length:Int) < 0:=by omega
  have hl:ss.length ≤ 1048576:=by omega
  go_enter Tryz.func65,Tryz.ntmps65
  go_wp2
  go_loop [1,5] (fun l i => ∃ k:Nat,k ≤ ss.length ∧ i = .int .i64 k ∧ ∃ z:Int,l = .int .i64 z ∧ 0 ≤ z ∧ z ≤ 1048576) (fun _ i => ss.length - (intOf i).toNat)
  case atStart => exact ⟨0,by omega,rfl,_,rfl,by omega,by omega⟩
  case round =>
   obtain ⟨k,hk,rfl,z,rfl,z0,z1⟩:=hrel
   by_cases hlt:k < ss.length
   ·obtain ⟨b,o,rfl,hbl,hcell⟩:=HC.out (by omega)
    have hck:=hcell k hlt
    have hsz:=HS.out k hlt
    clear hcell HC HS
    generalize ss[k] = x at hck hsz
    by_cases d:z < (x.size:Int)
    ·have d':z - (x.size:Int) < 0:=by omega
     go_wp2
     go_ret
     exact ⟨-1,rfl,fun h => absurd h (by decide),by decide,rfl⟩
    ·have d':¬ z - (x.size:Int) < 0:=by omega
     go_wp2
     go_round
     case rel => exact ⟨k + 1,by omega,by go_num,z - (x.size:Int),by go_num,by omega,by omega⟩
     case measure => simp [intOf]; omega
   ·have e:k = ss.length:=by omega
    subst e
    go_wp2
    go_ret
    exact ⟨z,rfl,fun _ => by omega,by omega,rfl⟩
set_option maxHeartbeats 2000000 in
theorem zxx (c v:Int) (ao:Option Addr) (ss:List ByteArray) (cap:Nat) (left:Int) (w:World) (h:RdT w (.slice ao ss.length cap) ss) (hn:ss.length ≤ maxLen) (hs:∀ k (hk:k < ss.length),ss[k].size ≤ maxLen) (h0:0 ≤ left) (h1:left ≤ 1048576) :
  Calls Tryz.prog 27 #[.agg #[.int .i64 c,.int .i64 v,.slice ao ss.length cap],.int .i64 left] w fun e w' => ∃ r:Int,e = .returned (.int .i64 r) ∧ (0 ≤ r → ss.length ≤ 1048576 ∧ r ≤ 1048576) ∧ -1 ≤ r ∧ Below w.heap.size w w':=by
 have BW:Hid (Below w.heap.size w (w.alloc (.cells #[.int .i64 c,.int .i64 v,.slice ao ss.length cap] 34))):=(Below.refl _ _).alloc (Nat.le_refl _) _
 have LS:=zaa (zuz ao ss cap left _ (Rd.below h BW.out) hn hs h0 h1)
 clear h hn hs
 go_enter Tryz.func27,Tryz.ntmps27
 go_wp2_with fail
 refine LS.out.mono ?_
 rintro e w1 ⟨r,rfl,hr,hr1,hw1⟩
 subst w1
 clear LS
 by_cases c:r < 0
 ·go_wp2
  go_ret
  exact ⟨-1,rfl,fun h => absurd h (by decide),by decide,BW.out⟩
 ·go_wp2
  go_ret
  exact ⟨r,rfl,hr,hr1,BW.out⟩
theorem yanv {w:World} {b:Nat} {t:TypeId} {x y z:Value} (h:w.heap[b]? = some (.cells #[x,y,z] t (0,0))) (u:Value):(w.setCell ⟨b,0,none⟩ u).heap[b]? = some (.cells #[u,y,z] t (0,0)):=by simp [World.setCell,Array.getElem?_modify,h]
theorem yaol {w:World} {b:Nat} {t:TypeId} {x y z:Value} (h:w.heap[b]? = some (.cells #[x,y,z] t (0,0))) (u:Value):(w.setCell ⟨b,1,none⟩ u).heap[b]? = some (.cells #[x,u,z] t (0,0)):=by simp [World.setCell,Array.getElem?_modify,h]
set_option maxRecDepth 100000 in
set_option maxHeartbeats 4000000 in
theorem zza (c v:Int) (ao:Option Addr) (ss:List ByteArray) (cap:Nat) (w:World) (h:RdT w (.slice ao ss.length cap) ss) (hn:ss.length ≤ 1048576) :
  Calls Tryz.prog 33 #[.agg #[.int .i64 c,.int .i64 v,.slice ao ss.length cap]] w fun e w' => ∃ vN,e = .returned (.agg #[.int .i64 c,.int .i64 v,vN]) ∧ Row w' 9 1 w.heap.size w'.heap.size vN ss.length (zlj ss) ∧ Below w.heap.size w w':=by
 obtain ⟨V,hV⟩:∃ V,V = (((w.alloc (.cells #[.int .i64 c,.int .i64 v,.slice ao ss.length cap] 34)).alloc (.cells #[.int .i64 0,.int .i64 0,.slice none 0 0] 49)).alloc (.cells #[.int .i64 0,.int .i64 0,.slice none 0 0] 49)):=⟨_,rfl⟩
 have hzV:V.heap.size = w.heap.size + 1 + 1 + 1:=by rw [hV]; simp
 have BV:Hid (Below w.heap.size w V):=by rw [hV]; exact (((Below.refl _ _).alloc (Nat.le_refl _) _).alloc (by simp) _).alloc (by simp <;> omega) _
 have X0:Hid (V.heap[w.heap.size]? = some (.cells #[.int .i64 c,.int .i64 v,.slice ao ss.length cap] 34 (0,0))):=by rw [hV]; exact zal (zal (zag rfl))
 have Y0:Hid (V.heap[w.heap.size + 1]? = some (.cells #[.int .i64 0,.int .i64 0,.slice none 0 0] 49 (0,0))):=by rw [hV]; exact zal (zag (by simp))
 have Z0:Hid (V.heap[w.heap.size + 1 + 1]? = some (.cells #[.int .i64 0,.int .i64 0,.slice none 0 0] 49 (0,0))):=by rw [hV]; exact zag (by simp)
 obtain ⟨V1,hV1⟩:∃ V1,V1 = (V.setCell ⟨w.heap.size + 1 + 1,0,none⟩ (.int .i64 c)).setCell ⟨w.heap.size + 1 + 1,1,none⟩ (.int .i64 v):=⟨_,rfl⟩
 have O1:Outside (w.heap.size + 2) (w.heap.size + 3) V V1:=by rw [hV1]; exact ((Outside.refl _ _ _).setCell (a:=⟨w.heap.size + 1 + 1,0,none⟩) (by simp only; omega) (by simp only; omega) _).setCell (a:=⟨w.heap.size + 1 + 1,1,none⟩) (by simp only; omega) (by simp only; omega) _
 have hz1:w.heap.size + 3 ≤ V1.heap.size ∧ V1.heap.size ≤ w.heap.size + 3:=by rw [hV1]; simp [World.setCell,hzV]
 have BV1:Hid (Below w.heap.size w V1):=BV.out.trans (O1.below (by omega) (by omega))
 have X1:Hid (V1.heap[w.heap.size]? = some (.cells #[.int .i64 c,.int .i64 v,.slice ao ss.length cap] 34 (0,0))):=(O1.block _ (by omega) (by omega)).trans X0.out
 have Y1:Hid (V1.heap[w.heap.size + 1]? = some (.cells #[.int .i64 0,.int .i64 0,.slice none 0 0] 49 (0,0))):=(O1.block _ (by omega) (by omega)).trans Y0.out
 have Z1:Hid (V1.heap[w.heap.size + 1 + 1]? = some (.cells #[.int .i64 c,.int .i64 v,.slice none 0 0] 49 (0,0))):=by rw [hV1]; exact yaol (yanv Z0.out _) _
 have LT:=zaa (zvi (.slice ao ss.length cap) ss V1 (Rd.below h BV1.out) hn)
 clear h O1
 obtain ⟨x0,x1,x2,-⟩:=tri3 X0.out
 obtain ⟨z0,z1,z2,z3,z4,z5⟩:=tri3 Z0.out
 have hzV':=zaa hzV
 clear hzV
 go_enter Tryz.func33,Tryz.ntmps33
 go_upto_region 2 with fail
 rw [← hV]
 clear hV
 go_upto_region 4 with fail
 rw [← hV1]
 clear x0 x1 x2 z0 z1 z2 z3 z4 z5 X0 Y0 Z0 BV hV1
 obtain ⟨x0,x1,x2,-⟩:=tri3 X1.out
 go_wp2_with fail
 refine LT.out.mono ?_
 rintro e w1 ⟨v1,rfl,hr1,hb1⟩
 obtain ⟨-,aN,cN,rfl,-⟩:=hr1.rd
 have zz:=hb1.size
 have B1:=zaa (zab BV1.out hb1 BV1.out.size)
 have Y2:=zaa ((hb1.block _ (by omega)).trans Y1.out)
 have Z2:=zaa ((hb1.block _ (by omega)).trans Z1.out)
 have R2:Hid (Row w1 9 1 (w.heap.size + 3) w1.heap.size (.slice aN ss.length cN) ss.length (zlj ss)):=hr1.wide (by omega) (Nat.le_refl _)
 clear hr1 hb1 LT X1 Y1 Z1 x0 x1 x2 BV1
 obtain ⟨y0,y1,y2,y3,y4,y5⟩:=tri3 Y2.out
 obtain ⟨z0,z1,z2,z3,z4,z5⟩:=tri3 Z2.out
 go_wp2
 refine bodyPost_ret (v:=.agg #[.int .i64 c,.int .i64 v,.slice aN ss.length cN]) (by simp [results,Tryz.results33,go_sem,y0,y1,y2]) rfl ?_
 have O:Outside (w.heap.size + 1) (w.heap.size + 3) w1 ((((w1.setCell ⟨w.heap.size + 1 + 1,2,none⟩ (.slice aN ss.length cN)).setCell ⟨w.heap.size + 1,0,none⟩ (.int .i64 c)).setCell ⟨w.heap.size + 1,1,none⟩ (.int .i64 v)).setCell ⟨w.heap.size + 1,2,none⟩ (.slice aN ss.length cN)):=by
  repeat (refine Outside.setCell ?_ (by simp only; omega) (by simp only; omega) _)
  exact Outside.refl _ _ _
 have hz3:=O.size
 exact ⟨_,rfl,(R2.out.outside O (by omega) (Nat.le_refl _)).wide (by omega) (by omega),B1.out.trans (O.below (by omega) (by omega))⟩
end Go.Proofs.YtlkmnpanddchdaaGreatDoor
