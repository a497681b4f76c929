/- The reference's Key; parts by their places (texts of stage 5, at this seat). -/
import Derived.Test.YtmbcegljmhcdeaaGreatZna
import Derived.Test.YtmbcegljmhcdeaaGreatZrs
namespace Go.Proofs.YtmbcegljmhcdeaaGreat
set_option maxRecDepth 5000
open Go.RowKit
namespace Z
theorem chk_len {n:List (List UInt8)} (h:N.chk n=0):n.length<=127:=by
 obtain⟨h1,h2,_⟩:=N.chk_small h
 have : ∀ m:List (List UInt8), [] ∉ m->2*m.length<=(m.map (fun l=>l.length+1)).sum:=fun m=>by
  induction m with
  | nil=>intro _;simp
  | cons a m ih =>
   intro hm
   have h3:=ih (fun h=>hm (by simp[h]))
   have h4:0<a.length:=List.length_pos_iff.2 fun e=>hm (by simp[e])
   rw[List.map_cons,List.sum_cons,List.length_cons];omega
 have:=this n h1
 unfold N.size at h2
 omega
def ttlAt (L:List R) (p:List (List UInt8)) (t:Nat):Nat:=((setAt L p t).head?.map (·.ttl)).getD 0
theorem Of.ttl {L:List R} {C:List (List UInt8)->Nat->Option St} (h:Of L C) (p:List (List UInt8)) (t:Nat):((C p t).map fun S=>S.ttl).getD 0=ttlAt L p t:=by
 unfold ttlAt
 cases hC:C p t with
 | none =>
  have h0:setAt L p t = []:=List.filter_eq_nil_iff.2 fun x hx hk=>by
   have hk:x.p=p/\x.t=t:=by simpa using hk
   exact h.no p t hC x hx hk
  rw[h0];rfl
 | some S =>
  obtain⟨x,hx,e1,e2⟩:=h.ex p t S hC
  cases hs:setAt L p t with
  | nil =>
   have:=mem_setAt.2 ⟨hx,e1,e2⟩
   rw[hs] at this;cases this
  | cons y r =>
   have hy:y∈setAt L p t:=by rw[hs];simp
   obtain⟨hy,e3,e4⟩:=mem_setAt.1 hy
   have:=(h.at_ y hy S (by rw[e3,e4];exact hC)).1
   show S.ttl=y.ttl
   exact this.symm
theorem Of.none_iff {L:List R} {C:List (List UInt8)->Nat->Option St} (h:Of L C) (p:List (List UInt8)) (t:Nat):C p t=none↔setAt L p t = []:=by
 constructor
 ·intro hC
  exact List.filter_eq_nil_iff.2 fun x hx hk=>by
   have hk:x.p=p/\x.t=t:=by simpa using hk
   exact h.no p t hC x hx hk
 ·intro hs
  cases hC:C p t with
  | none=>rfl
  | some S =>
   obtain⟨x,hx,e1,e2⟩:=h.ex p t S hC
   have:=mem_setAt.2 ⟨hx,e1,e2⟩
   rw[hs] at this;cases this
theorem thin_put {L:List R} (h:Thin L) {n:List (List UInt8)} (hg:N.chk n=0) {t ttl:Nat} {c d:List UInt8} : Thin (put L ⟨path n,t,c,ttl,d⟩):=fun x hx l hl=>by
 obtain⟨y,hy,rfl⟩:=mem_put.1 hx
 rw[setT_p] at hl
 rcases hy with hy | ⟨_,rfl⟩
 ·exact h y hy l hl
 ·have hl:l∈path n:=hl
  unfold path at hl
  rw[List.mem_reverse] at hl
  unfold N.lowN at hl
  obtain⟨l0,h0,rfl⟩:=List.mem_map.1 hl
  rw[N.lowL_len]
  exact (N.chk_small hg).2.2 l0 h0
def putR (A:List (List UInt8)) (L:List R) (n:List (List UInt8)) (t cl ttl:Nat) (d:List UInt8):Bool × Nat × List R :=
 if N.chk n≠0\/N.within n A=false then (false,110,L)
 else if cl≠1 then (false,50,L)
 else match cn t d with
 | none=>(false,50,L)
 | some c=>if there L ⟨path n,t,c,ttl,d⟩=true then (if ttlAt L (path n) t=ttl then (false,0,L) else (true,0,put L ⟨path n,t,c,ttl,d⟩))
  else if 2000<=L.length then (false,111,L) else (true,0,put L ⟨path n,t,c,ttl,d⟩)
end Z
def ZLive (X:Nat->Prop) (w:World) (Zb:Nat) (A:List (List UInt8)) (L:List Z.R) (K:Nat):Prop := ∃ ρ G C,ZAt w Zb A L ρ G C K/\(∀ i,X i->i<w.heap.size/\i≠Zb /\ ρ i = .none)/\Z.Thin L
structure ZKp (X:Nat->Prop) (w w':World):Prop where
 os:w'.os=w.os
 tape:w'.tape=w.tape
 output:w'.output=w.output
 size:w.heap.size<=w'.heap.size
 keep : ∀ i,X i->i<w.heap.size->w'.heap[i]?=w.heap[i]?
 rows : ∀ (g:Nat) (c:Array Value) (et:TypeId) (fr:Nat × Nat),w.heap[g]?=some (Obj.cells c et fr)->et≠107->et≠94->w'.heap[g]?=w.heap[g]?
 sl : ∀ ao l,SlL w ao l->SlL w' ao l
 ss : ∀ ao l,SlS w ao l->SlS w' ao l
theorem ZKp.of_below {X:Nat->Prop} {w w':World} (h:Below w.heap.size w w'):ZKp X w w' :=
 ⟨h.os,h.tape,h.output,h.size,fun i _ hi=>h.block i hi,fun g _ _ _ hg _ _=>h.block g (Array.getElem?_eq_some_iff.1 hg).1,fun _ _ hs=>hs.below h (Nat.le_refl _),fun _ _ hs=>hs.below h (Nat.le_refl _)⟩
theorem ZKp.kb {X:Nat->Prop} {w w':World} (h:ZKp X w w'):KB w w':=⟨h.size,fun g c et fr hg he=>(h.rows g c et fr hg (fun e=>by rcases he with rfl | rfl <;> exact absurd e (by decide)) (fun e=>by rcases he with rfl | rfl <;> exact absurd e (by decide))).trans hg⟩
theorem ZKp.row {X:Nat->Prop} {w w':World} (h:ZKp X w w') {g:Nat} {t:TypeId} {c:Array Value} (hr:RowAt w g t c) (h1:t≠107) (h2:t≠94):RowAt w' g t c:=(h.rows g c t _ hr h1 h2).trans hr
theorem ZKp.of_zm {X:Nat->Prop} {w w':World} {Zb:Nat} {A:List (List UInt8)} {L:List Z.R} {ρ : Nat->Role} {G:List (List UInt8)->Option Nd} {C:List (List UInt8)->Nat->Option Z.St} {K:Nat} (Zx:ZAt w Zb A L ρ G C K) (hX : ∀ i,X i->i<w.heap.size/\i≠Zb /\ ρ i = .none) (h:ZM Zb ρ w w'):ZKp X w w':=by
 obtain⟨ao,cap,hz,_,_⟩:=Zx.row
 have hk:=Zx.tree.kind
 refine⟨h.os,h.tape,h.output,h.size,fun i hx hi=>h.block i hi (hX i hx).2.1 (hX i hx).2.2,fun g c et fr hg h1 h2=>?_,fun _ _ hs=>slL_zm h hk hz hs,fun _ _ hs=>slS_zm h hk hz hs⟩
 refine h.block g (Array.getElem?_eq_some_iff.1 hg).1 (fun e=>?_) (Classical.byContradiction fun h0=>?_)
 ·have hz':w.heap[Zb]?=some (Obj.cells #[.slice ao A.length cap,ptr (nodeN G []),.int .i64 (L.length:Int)] 94):=hz
  rw[e,hz'] at hg;injection hg with hg;injection hg with _ hg _;exact h2 hg.symm
 ·rcases hk g h0 with⟨es,k,hb⟩ | ⟨a,b,hb⟩
  ·rw[hb] at hg;cases hg
  ·rw[hb] at hg;injection hg with hg;injection hg with _ hg _;exact h1 hg.symm
theorem ZLive.bel {X:Nat->Prop} {w w':World} {Zb:Nat} {A:List (List UInt8)} {L:List Z.R} {K:Nat} (h:ZLive X w Zb A L K) (hb:Below w.heap.size w w'):ZLive X w' Zb A L K:=by
 obtain⟨ρ,G,C,h1,h2,h3⟩:=h
 exact⟨ρ,G,C,h1.bel hb,fun i hi=>⟨Nat.lt_of_lt_of_le (h2 i hi).1 hb.size,(h2 i hi).2⟩,h3⟩
theorem ZLive.mono {X:Nat->Prop} {w:World} {Zb:Nat} {A:List (List UInt8)} {L:List Z.R} {K K':Nat} (h:ZLive X w Zb A L K) (hk:K<=K'):ZLive X w Zb A L K':=by
 obtain⟨ρ,G,C,h1,h2,h3⟩:=h
 exact⟨ρ,G,C,h1.mono hk,h2,h3⟩
theorem ZLive.num {X:Nat->Prop} {w:World} {Zb:Nat} {A:List (List UInt8)} {L:List Z.R} {K:Nat} (h:ZLive X w Zb A L K):L.length<=2000:=by
 obtain⟨ρ,G,C,h1,h2,h3⟩:=h;exact h1.num
theorem znew_live (X:Nat->Prop) (w:World) (hX : ∀ i,X i->i<w.heap.size) (n:List (List UInt8)) (ao:Option Addr) (len cap:Nat) (hl:Hid (n.length=len)) (hs:SlS w ao n) (hm:Hid (N.Small n)) :
 Calls Tryz.prog 12 #[.slice ao len cap] w fun e w' => ∃ Zb,e = .returned (.pointer (some ⟨Zb,0,none⟩))/\w.heap.size<=Zb/\ZLive X w' Zb (N.lowN n) [] 0/\Below w.heap.size w w':=by
 refine (znew_any w n ao len cap hl hs hm).mono ?_
 rintro e w' ⟨Zb, ρ,G,rfl,h1,h2,h3,h4⟩
 exact⟨Zb,rfl,h1,⟨ρ,G,_,h2,fun i hi=>⟨Nat.lt_of_lt_of_le (hX i hi) h4.size,by have:=hX i hi;omega,h3 i (hX i hi)⟩,fun x hx=>(by cases hx)⟩,h4⟩
theorem zput_live {X:Nat->Prop} {w:World} {Zb:Nat} {A:List (List UInt8)} {L:List Z.R} {K:Nat} (Z0:ZLive X w Zb A L K) (hA:Hid (N.Small A)) (n:List (List UInt8)) (na:Option Addr) (nl nc:Nat) (hl:Hid (n.length=nl)) (hnc:nl<=nc) (hs:SlS w na n) (hm:Hid (N.Small n)) (t cl ttl:Nat) (d:List UInt8) (da:Option Addr) (dl dc:Nat) (hdl:Hid (d.length=dl)) (hsd:SlL w da d) (hnd:da=none->dc=0) (hdc:dl<=dc) (ht:t<65536) (httl:ttl<4294967296) (hK:K+nl+2<=1000000) :
 Calls Tryz.prog 44 #[.pointer (some ⟨Zb,0,none⟩),recV na nl nc t cl ttl da dl dc] w fun e w'=>e = .returned (.tuple #[.bool (Z.putR A L n t cl ttl d).1,.int .i64 ((Z.putR A L n t cl ttl d).2.1:Int)])/\ZLive X w' Zb A (Z.putR A L n t cl ttl d).2.2 (K+nl+1)/\ZKp X w w':=by
 have hdl':=hdl.out
 subst hdl'
 have Z0':=Z0
 obtain⟨ρ,G,C,Zx,hX,hth⟩:=Z0
 by_cases hbad:N.chk n≠0\/N.within n A=false
 ·have e:Z.putR A L n t cl ttl d=(false,110,L):=by unfold Z.putR;rw[if_pos hbad]
  rw[e]
  refine (zput_name w Zb A L ρ G C K Zx hA n na nl nc hl hnc hs hm t cl ttl d da dc hsd hnd hdc hbad).mono ?_
  rintro e w' ⟨rfl,hb⟩
  exact⟨rfl,(Z0'.bel hb).mono (by omega),.of_below hb⟩
 ·have hgood:N.chk n=0:=Classical.byContradiction fun h=>hbad (Or.inl h)
  have hwin:N.within n A=true:=by
   cases h:N.within n A with
   | true=>rfl
   | false=>exact absurd (Or.inr h) hbad
  by_cases hcl:cl≠1\/cn t d=none
  ·have e:Z.putR A L n t cl ttl d=(false,50,L):=by
    unfold Z.putR;rw[if_neg hbad]
    by_cases h:cl≠1
    ·rw[if_pos h]
    ·rw[if_neg h,hcl.resolve_left h]
   rw[e]
   refine (zput_data w Zb A L ρ G C K Zx hA n na nl nc hl hnc hs hm t cl ttl d da dc hsd hnd hdc hgood hwin hcl).mono ?_
   rintro e w' ⟨rfl,hb⟩
   exact⟨rfl,(Z0'.bel hb).mono (by omega),.of_below hb⟩
  ·have hc1:cl=1:=Classical.byContradiction fun h=>hcl (Or.inl h)
   subst hc1
   cases hcn:cn t d with
   | none=>exact absurd (Or.inr hcn) hcl
   | some c =>
    have hnl:nl<=128:=by have:=Z.chk_len hgood;have:=hl.out;omega
    have hthe:(Z.got C (path n) t c).isSome=Z.there L ⟨path n,t,c,ttl,d⟩:=Zx.of.got_there ⟨path n,t,c,ttl,d⟩
    have htt:=Z.Of.ttl Zx.of (path n) t
    have e0:Z.putR A L n t 1 ttl d=if Z.there L ⟨path n,t,c,ttl,d⟩=true then (if Z.ttlAt L (path n) t=ttl then (false,0,L) else (true,0,Z.put L ⟨path n,t,c,ttl,d⟩)) else if 2000<=L.length then (false,111,L) else (true,0,Z.put L ⟨path n,t,c,ttl,d⟩):=by
     unfold Z.putR;rw[if_neg hbad,if_neg (by simp),hcn]
    refine (zput_good w Zb A L ρ G C K Zx hA n na nl nc hl hnc hs hm t ttl d da dc hsd hnd hdc ht c hgood hwin hcn httl hnl hK).mono ?_
    rintro e w' ⟨b,cd,rfl,⟨rfl,hb,⟨rfl,h1,h2⟩ | ⟨rfl,h1,h2⟩⟩ | ⟨rfl,rfl,h1,h2, ρ',G',hZ,hmore,hzm⟩⟩
    ·have e:Z.putR A L n t 1 ttl d=(false,0,L):=by rw[e0,if_pos (by rw[<- hthe];exact h1),if_pos (by rw[<- htt];exact h2)]
     rw[e]
     exact⟨rfl,(Z0'.bel hb).mono (by omega),.of_below hb⟩
    ·have e:Z.putR A L n t 1 ttl d=(false,111,L):=by rw[e0,if_neg (by rw[<- hthe,h1];simp),if_pos h2]
     rw[e]
     exact⟨rfl,(Z0'.bel hb).mono (by omega),.of_below hb⟩
    ·have e:Z.putR A L n t 1 ttl d=(true,0,Z.put L ⟨path n,t,c,ttl,d⟩):=by
      rw[e0]
      by_cases ht:Z.there L ⟨path n,t,c,ttl,d⟩=true
      ·rw[if_pos ht,if_neg (fun h=>h1 ⟨by rw[hthe];exact ht,by rw[htt];exact h⟩)]
      ·rw[if_neg ht,if_neg (fun h=>h2 ⟨?_,h⟩)]
       cases hg:Z.got C (path n) t c with
       | none=>rfl
       | some z=>rw[hg] at hthe;exact absurd hthe.symm ht
     rw[e]
     exact⟨rfl,⟨ρ',G',_,hZ,fun i hi=>⟨Nat.lt_of_lt_of_le (hX i hi).1 hzm.size,(hX i hi).2.1,by rw[hmore i (hX i hi).1];exact (hX i hi).2.2⟩,Z.thin_put hth hgood⟩,.of_zm Zx hX hzm⟩
theorem zhas_live {X:Nat->Prop} {w:World} {Zb:Nat} {A:List (List UInt8)} {L:List Z.R} {K:Nat} (Z0:ZLive X w Zb A L K) (n:List (List UInt8)) (ao:Option Addr) (len cap:Nat) (hl:Hid (n.length=len)) (hs:SlS w ao n) (hm:Hid (N.Small n)) :
 Calls Tryz.prog 30 #[.pointer (some ⟨Zb,0,none⟩),.slice ao len cap] w fun e w'=>e = .returned (.bool (Z.has L (path n)))/\Below w.heap.size w w':=by
 obtain⟨ρ,G,C,Zx,hX,hth⟩:=Z0
 exact zhas_any w Zb A L ρ G C K Zx n ao len cap hl hs hm
def SetR (w:World) (L:List Z.R) (n:List (List UInt8)) (nl t:Nat) (e:Ending) (w':World):Prop :=
 Below w.heap.size w w'/\((Z.setAt L (path n) t = []/\e = .returned (.tuple #[asetZ,.bool false])) \/
  (Z.setAt L (path n) t ≠ [] /\ ∃ (na:Option Addr) (nc:Nat) (v:Value),e = .returned (.tuple #[.agg #[.slice na nl nc,.int .u16 (t:Int),.int .u32 (Z.ttlAt L (path n) t:Int),v],.bool true])/\TyS w' na (N.lowN n)/\nl<=nc/\OwnL 37 1 EB w' w.heap.size v ((Z.setAt L (path n) t).map (·.d))))
theorem zset_live {X:Nat->Prop} {w:World} {Zb:Nat} {A:List (List UInt8)} {L:List Z.R} {K:Nat} (Z0:ZLive X w Zb A L K) (hK:K<=1000000) (n:List (List UInt8)) (ao:Option Addr) (len cap:Nat) (hl:Hid (n.length=len)) (hs:SlS w ao n) (hm:Hid (N.Small n)) (t:Nat) (ht:t<65536) :
 Calls Tryz.prog 24 #[.pointer (some ⟨Zb,0,none⟩),.slice ao len cap,.int .u16 (t:Int)] w fun e w'=>SetR w L n len t e w':=by
 obtain⟨ρ,G,C,Zx,hX,hth⟩:=Z0
 refine (zset_any w Zb A L ρ G C K Zx hK n ao len cap hl hs hm t ht).mono ?_
 rintro e w' ⟨hb,⟨hC,rfl⟩ | ⟨S,na,nc,v,hC,rfl,h1,h2,h3⟩⟩
 ·exact⟨hb,Or.inl ⟨(Z.Of.none_iff Zx.of _ _).1 hC,rfl⟩⟩
 ·have htt:=Z.Of.ttl Zx.of (path n) t
  rw[hC] at htt
  have htt:S.ttl=Z.ttlAt L (path n) t:=htt
  refine⟨hb,Or.inr ⟨fun h=>?_,na,nc,v,by rw[htt],h1,h2,h3⟩⟩
  rw[(Z.Of.none_iff Zx.of _ _).2 h] at hC;cases hC
theorem ztypes_live {X:Nat->Prop} {w:World} {Zb:Nat} {A:List (List UInt8)} {L:List Z.R} {K:Nat} (Z0:ZLive X w Zb A L K) (hK:K<=1000000) (n:List (List UInt8)) (ao:Option Addr) (len cap:Nat) (hl:Hid (n.length=len)) (hs:SlS w ao n) (hm:Hid (N.Small n)) :
 Calls Tryz.prog 33 #[.pointer (some ⟨Zb,0,none⟩),.slice ao len cap] w fun e w' => ∃ v,e = .returned v /\ ∃ ts:List UInt16,ts.map (·.toNat)=Z.typesAt L (path n)/\OwnH w' w.heap.size v ts/\Below w.heap.size w w':=by
 obtain⟨ρ,G,C,Zx,hX,hth⟩:=Z0
 exact ztypes_any w Zb A L ρ G C K Zx hK n ao len cap hl hs hm
theorem ZKp.below {X:Nat->Prop} {w w':World} {B:Nat} (h:ZKp X w w') (hX : ∀ i,i<B->X i) (hB:B<=w.heap.size):Below B w w' :=
 ⟨h.os,h.tape,h.output,h.size,fun i hi=>h.keep i (hX i hi) (Nat.lt_of_lt_of_le hi hB)⟩
open Go.RowKit
structure PSet where
 n:List (List UInt8)
 t:Nat
 ttl:Nat
 d:List (List UInt8)
def setP (L:List Z.R) (n:List (List UInt8)) (t:Nat):PSet:=⟨N.lowN n,t,Z.ttlAt L (path n) t,(Z.setAt L (path n) t).map (·.d)⟩
def setsP (L:List Z.R) (n:List (List UInt8)) (ts:List Nat):List PSet:=ts.flatMap fun t=>if Z.setAt L (path n) t = [] then [] else [setP L n t]
theorem setsP_snoc (L:List Z.R) (n:List (List UInt8)) (ts:List Nat) (j:Nat) (hj:j<ts.length):setsP L n (ts.take (j+1))=setsP L n (ts.take j)++if Z.setAt L (path n) ts[j] = [] then [] else [setP L n ts[j]]:=Z.flat_succ _ ts j hj
theorem setsP_len (L:List Z.R) (n:List (List UInt8)) (ts:List Nat):(setsP L n ts).length<=ts.length:=by
 unfold setsP
 induction ts with
 | nil=>simp
 | cons t r ih =>
  rw[List.flatMap_cons,List.length_append,List.length_cons]
  have h:(if Z.setAt L (path n) t = [] then [] else [setP L n t]).length<=1:=by split <;> simp
  omega
def ES (w:World) (x:PSet) (us:List Value):Prop := ∃ na nc da dc base,us = [.slice na x.n.length nc,.int .u16 (x.t:Int),.int .u32 (x.ttl:Int),.slice da x.d.length dc]/\TyS w na x.n/\x.n.length<=nc/\OwnL 37 1 EB w base (.slice da x.d.length dc) x.d
theorem ES.kx {et:TypeId} (h1:et≠5/\et≠9) (h2:37≠et) {w w':World} {x:PSet} {us:List Value} (h:ES w x us) (k:KX et w w'):ES w' x us:=by
 obtain⟨na,nc,da,dc,base,e,hT,hc,hO⟩:=h
 exact⟨na,nc,da,dc,base,e,hT.kb (k.kb h1),hc,hO.kx k (fun _ _ h=>h.kb (k.kb h1)) h2⟩
theorem ES.bel {w w':World} {x:PSet} {us:List Value} (h:ES w x us) (k:Below w.heap.size w w'):ES w' x us:=by
 obtain⟨na,nc,da,dc,base,e,hT,hc,hO⟩:=h
 exact⟨na,nc,da,dc,base,e,hT.kb (KB.of_below k),hc,hO.bel (fun _ _ h=>h.kb (KB.of_below k)) k⟩
theorem OwnL.ob {α : Type} {et:TypeId} {sz:Nat} {E:World -> α -> List Value->Prop} {w:World} {base:Nat} {v:Value} {L:List α} (h:OwnL et sz E w base v L) (k:Nat) (hk:w.heap.size<=k):some k≠v.ownBlock:=by
 obtain⟨vss,h,_⟩:=h
 rcases h.2 with⟨rfl,_⟩ | ⟨g,cap,cur,rfl,h1,h2,_⟩
 ·intro e;simp[Value.ownBlock] at e
 ·intro e
  have e2:k=g:=by simpa [Value.ownBlock] using e
  have:=(Array.getElem?_eq_some_iff.1 h2).1
  omega
theorem infoAs:(Tryz.prog.info? 54).map (fun i=>(i.zero,i.size,i.bytes))=some (some (.agg #[.slice none 0 0,.int .u16 0,.int .u32 0,.slice none 0 0]),4,56):=by kernel_rfl
theorem wpList_appX {α : Type} {et:TypeId} {sz:Nat} {E:World -> α -> List Value->Prop} {w:World} {ops:Array Oper} {rest:List Oper} {o:Oper} {a:Act} {Q:Exit->Act->World->Prop} (hgd:o.guard=none) (s x:Operand) (st:TypeId)
 (ho:o.op = .call { callee := .builtin .append,args := #[s,x],argTypes := #[st,st] }) (hu:Tryz.prog.underlying st=some (.slice et)) (z:Value) (bytes:Nat) (hie : ∃ i,Tryz.prog.info? et=some i/\i.zero=some z/\i.size=sz/\i.bytes=bytes) (hzc:z.cells.size=sz) (hsz:0<sz) (hby:bytes<=200)
 (base:Nat) (v:Value) (L:List α) (hs:a.eval s=v) (hown:OwnL et sz E w base v L) (ad:Addr) (c:Nat) (y : α) (us:List Value) (hx:a.eval x = .slice (some ad) 1 c) (hr : ∀ j u,us[j]?=some u->w.cell? (ad.add j)=some u) (hlen:us.length=sz) (hone : ∀ u∈us,u.oneCell'=true) (hEy:E w y us)
 (hEk : ∀ w' x us,KX et w w'->E w x us->E w' x us) (hbound:L.length<=1000000) (hbase:base<=w.heap.size)
 (h : ∀ v' w',OwnL et sz E w' base v' (L ++ [y])->KX et w w'->Below base w w'->w.grownBy w' v.ownBlock->wpList Tryz.prog ops Q rest (a.put o.dst v') w'):wpList Tryz.prog ops Q (o::rest) a w:=by
 obtain⟨i0,hi,hz0,hz1,hz2⟩:=hie
 obtain⟨vss,hv,hE⟩:=hown
 have hmul:(L.length+1)*bytes<=1000001*200:=Nat.mul_le_mul (by omega) hby
 refine wpList_append_own w hgd s x st ho base et i0 z sz bytes hu hi hz0 hz1 hz2 hzc hsz v L.length vss.flatten hs hv ad 1 c us hx (by omega) hr hone (by unfold maxLen;omega) (by omega) hbase ?_
 intro v' w' h1 h2 _
 have hk:=KX.grown hv h2
 refine h v' w' ⟨vss ++ [us],?_,(hE.kb fun x us=>hEk w' x us hk).app (Els.one hlen hone (hEk w' y us hk hEy))⟩ hk (owns_below hv h2 hbase) h2
 rw[List.length_append,List.length_singleton,List.flatten_append,List.flatten_cons,List.flatten_nil,List.append_nil]
 exact h1
theorem step_appX {α : Type} {et:TypeId} {sz:Nat} {E:World -> α -> List Value->Prop} {w:World} {ops:Array Oper} {o:Oper} {a:Act} {J:Act->World->Prop} {Q:Exit->Act->World->Prop} {F:Prop} (hgd:o.guard=none) (s x:Operand) (st:TypeId)
 (ho:o.op = .call { callee := .builtin .append,args := #[s,x],argTypes := #[st,st] }) (hu:Tryz.prog.underlying st=some (.slice et)) (z:Value) (bytes:Nat) (hie : ∃ i,Tryz.prog.info? et=some i/\i.zero=some z/\i.size=sz/\i.bytes=bytes) (hzc:z.cells.size=sz) (hsz:0<sz) (hby:bytes<=200)
 (base:Nat) (v:Value) (L:List α) (hs:a.eval s=v) (hown:OwnL et sz E w base v L) (ad:Addr) (c:Nat) (y : α) (us:List Value) (hx:a.eval x = .slice (some ad) 1 c) (hr : ∀ j u,us[j]?=some u->w.cell? (ad.add j)=some u) (hlen:us.length=sz) (hone : ∀ u∈us,u.oneCell'=true) (hEy:E w y us)
 (hEk : ∀ w' x us,KX et w w'->E w x us->E w' x us) (hbound:L.length<=1000000) (hbase:base<=w.heap.size)
 (h : ∀ v' w',OwnL et sz E w' base v' (L ++ [y])->KX et w w'->Below base w w'->w.grownBy w' v.ownBlock->J (a.put o.dst v') w'):if Region.wanted o (yielded ops a.tmps)=true then Oper.wp Tryz.prog o a w J Q else F:=by
 have hw:Region.wanted o (yielded ops a.tmps)=true:=by simp[Region.wanted,hgd]
 rw[if_pos hw]
 obtain⟨i0,hi,hz0,hz1,hz2⟩:=hie
 obtain⟨vss,hv,hE⟩:=hown
 have hmul:(L.length+1)*bytes<=1000001*200:=Nat.mul_le_mul (by omega) hby
 obtain⟨v',w',h1,h2,h3,_⟩:=run_append_own (P:=Tryz.prog) w base st o.type et i0 z sz bytes hu hi hz0 hz1 hz2 hzc hsz v L.length vss.flatten hv ad 1 c us (by omega) hr hone (by unfold maxLen;omega) (by omega) hbase
 have hk:=KX.grown hv h3
 unfold Oper.wp execOp
 simp only[ho,resolve,invoke,builtin,Sem.run_bind,Sem.run_pure,Result.andThen_ok,List.map_toArray,List.map_cons,List.map_nil,hs,hx,h1]
 refine h v' w' ⟨vss ++ [us],?_,(hE.kb fun x us=>hEk w' x us hk).app (Els.one hlen hone (hEk w' y us hk hEy))⟩ hk (owns_below hv h3 hbase) h3
 rw[List.length_append,List.length_singleton,List.flatten_append,List.flatten_cons,List.flatten_nil,List.append_nil]
 exact h2
end Go.Proofs.YtmbcegljmhcdeaaGreat
namespace Go.Proofs.YtmbcegljmhcdeaaGreat
set_option maxRecDepth 5000
open Go.RowKit
set_option maxRecDepth 20000 in
set_option maxHeartbeats 1500000 in
theorem sets_any {X:Nat->Prop} {w:World} {Zb:Nat} {A:List (List UInt8)} {L:List Z.R} {K:Nat} (Z0:ZLive X w Zb A L K) (hK:K<=1000000) (sb:Nat) (hsb:sb<w.heap.size) (h0:w.cell? ⟨sb,0,none⟩=some (.pointer (some ⟨Zb,0,none⟩))) (n:List (List UInt8)) (ao:Option Addr) (len cap:Nat) (hl:Hid (n.length=len)) (hs:SlS w ao n) (hm:Hid (N.Small n)) (ts:List UInt16) (ta:Option Addr) (tl tc:Nat) (htl:Hid (ts.length=tl)) (hts:SlH w ta ts) (hb:tl<=70000) :
 Calls Tryz.prog 107 #[.pointer (some ⟨sb,0,none⟩),.slice ao len cap,.slice ta tl tc] w fun e w' => ∃ v,e = .returned v/\OwnL 54 4 ES w' w.heap.size v (setsP L n (ts.map (·.toNat)))/\Below w.heap.size w w':=by
 have HZ:=hide Z0
 have HS:=hide hs
 have HTS:=hide hts
 have H0:=hide h0
 obtain⟨T,hT⟩ : ∃ T,T=ts.map (·.toNat):=⟨_,rfl⟩
 have hTl:T.length=tl:=by rw[hT,List.length_map,htl.out]
 rw[<- hT]
 have HT:=hide hT
 have HTL:=hide hTl
 clear Z0 hs hts h0 hT hTl
 go_enter Tryz.func107,Tryz.ntmps107
 go_wp2
 go_loopw [7,14] (fun v i wr => ∃ j:Nat,i = .int .i64 (j:Int)/\j<=tl/\Below w.heap.size w wr/\OwnL 54 4 ES wr w.heap.size v (setsP L n (T.take j))) (fun _ i _=>tl - (intOf i).toNat)
 case atStart=>exact⟨0,rfl,by omega,Below.refl _ _,by simpa [setsP] using OwnL.nil 54 4 ES w w.heap.size⟩
 case round =>
  obtain⟨j,rfl,hj,hB,hO⟩:=hrel
  have HB:=hide hB
  have HO:=hide hO
  have y0:wr.cell? ⟨sb,0,none⟩=some (.pointer (some ⟨Zb,0,none⟩)):=(hB.cell (p:=⟨sb,0,none⟩) hsb).trans H0.out
  clear hB hO
  by_cases hlt:j<tl
  ·have hjT:j<T.length:=by rw[HTL.out];exact hlt
   have hjt:j<ts.length:=by rw[htl.out];exact hlt
   obtain⟨b,o,rfl,hblt,hc⟩:=(HTS.out.below HB.out (Nat.le_refl _)) (by omega)
   obtain⟨t,ht⟩ : ∃ t,t=(ts.getD j 0).toNat:=⟨_,rfl⟩
   have y1:wr.cell? ⟨b,o+j,none⟩=some (.int .u16 (t:Int)):=by rw[ht];exact hc j hjt
   have ht1:t<65536:=by rw[ht];exact (ts.getD j 0).toNat_lt
   have hTj:T[j]=t:=by
    have e:T[j]?=some t:=by rw[HT.out,List.getElem?_map,List.getElem?_eq_getElem hjt,ht,List.getD_eq_getElem?_getD,List.getElem?_eq_getElem hjt];rfl
    rw[List.getElem?_eq_getElem hjT] at e;injection e
   have hsn:=setsP_snoc L n T j hjT
   rw[hTj] at hsn
   have hset:=zset_live (HZ.out.bel HB.out) hK n ao len cap hl (HS.out.below HB.out (Nat.le_refl _)) hm t ht1
   have hln:(setsP L n (T.take j)).length<=1000000:=by
    have h1:=setsP_len L n (T.take j)
    rw[List.length_take] at h1
    omega
   have hjk:(j:Int)<(tl:Int):=by omega
   unfold SetR at hset
   have HSN:=hide hsn
   have HLN:=hide hln
   clear hc ht hTj hsn hln
   by_cases hn0:Z.setAt L (path n) t = []
   ·have HSET:=hide (hset.mono (R':=fun e w'=>e = .returned (.tuple #[.agg #[.slice none 0 0,.int .u16 0,.int .u32 0,.slice none 0 0],.bool false])/\Below wr.heap.size wr w') fun e w' ⟨hb2,h⟩=>by
     rcases h with⟨_,he⟩ | ⟨h1,_⟩
     ·exact⟨he,hb2⟩
     ·exact absurd hn0 h1)
    have hsn:=HSN.out
    rw[if_pos hn0,List.append_nil] at hsn
    have HSN2:=hide hsn
    clear hset hsn hn0
    go_wp2_with (go_at_call 24;refine HSET.out.mono ?_;rintro e w2 ⟨rfl,hb2⟩)
    go_roundw
    case rel =>
     have hb3:=hb2.alloc hb2.size (.cells #[.slice none 0 0,.int .u16 0,.int .u32 0,.slice none 0 0] 54)
     exact⟨j+1,by go_num,by omega,HB.out.trans (hb3.mono HB.out.size),by rw[HSN2.out];exact HO.out.bel (fun _ _ h=>h.bel hb3) hb3⟩
    case measure=>simp[intOf];omega
   ·have HSET:=hide (hset.mono (R':=fun e w' => ∃ (na:Option Addr) (nc:Nat) (q:Option Addr) (ql qc tt:Nat),e = .returned (.tuple #[.agg #[.slice na len nc,.int .u16 (t:Int),.int .u32 (tt:Int),.slice q ql qc],.bool true])/\ES w' (setP L n t) [.slice na len nc,.int .u16 (t:Int),.int .u32 (tt:Int),.slice q ql qc]/\Below wr.heap.size wr w') fun e w' ⟨hb2,h⟩=>by
     rcases h with⟨h1,_⟩ | ⟨_,na,nc,v,he,hT,hc,hO⟩
     ·exact absurd h1 hn0
     ·obtain⟨q,qc,rfl,_,_⟩:=hO.slice
      refine⟨na,nc,q,_,qc,_,he,⟨na,nc,q,qc,wr.heap.size,?_,hT,?_,hO⟩,hb2⟩
      ·have e:(setP L n t).n.length=len:=(N.lowN_len n).trans hl.out
       rw[e];rfl
      ·have e:(setP L n t).n.length=len:=(N.lowN_len n).trans hl.out
       rw[e];exact hc)
    have hsn:=HSN.out
    rw[if_neg hn0] at hsn
    have HSN2:=hide hsn
    clear hset hsn hn0
    go_wp2_with (first
     | (go_at_call 24;refine HSET.out.mono ?_;rintro e w2 ⟨na,nc,q,ql,qc,tt,rfl,hES,hb2⟩;have HES:=hide hES;have HB2:=hide hb2;clear hES hb2)
     | (at_builtin;(refine wpList_appX rfl (.tmp 29) (.tmp 31) 68 rfl Tryz.underlying68 _ 56 (info_parts infoAs) rfl (by decide) (by decide) w.heap.size _ (setsP L n (T.take j)) rfl (HO.out.bel (fun _ _ h=>h.bel (HB2.out.trans ((((Below.refl _ w2).alloc (Nat.le_refl _) _).alloc (by simp) _).mono HB2.out.size))) (HB2.out.trans ((((Below.refl _ w2).alloc (Nat.le_refl _) _).alloc (by simp) _).mono HB2.out.size))) ⟨w2.heap.size+1,0,none⟩ 1 (setP L n t) [.slice na len nc,.int .u16 (t:Int),.int .u32 (tt:Int),.slice q ql qc] rfl (one_cell _ _ #[.slice na len nc,.int .u16 (t:Int),.int .u32 (tt:Int),.slice q ql qc] 54 (by have:=RowAt.new (w2.alloc (.cells #[.slice na len nc,.int .u16 (t:Int),.int .u32 (tt:Int),.slice q ql qc] 54)) 54 #[.slice na len nc,.int .u16 (t:Int),.int .u32 (tt:Int),.slice q ql qc];rw[World.size_alloc] at this;exact this)) rfl (by simp[Value.oneCell']) (HES.out.bel (((Below.refl _ w2).alloc (Nat.le_refl _) _).alloc (by simp) _)) (fun _ _ _ k h=>h.kx (by decide) (by decide) k) HLN.out (by have:=HB.out.size;have:=HB2.out.size;simp;omega) ?_);intro v3 w3 hO3 hK3 hB3 hG3)
     | fail)
    go_roundw
    case rel =>
     exact⟨j+1,by go_num,by omega,(HB.out.trans ((HB2.out.trans ((((Below.refl _ w2).alloc (Nat.le_refl _) _).alloc (by simp) _).mono HB2.out.size)).mono HB.out.size)).trans hB3,by rw[HSN2.out];exact hO3⟩
    case measure=>simp[intOf];omega
  ·obtain rfl:j=tl:=by omega
   have e:T.take j=T:=List.take_of_length_le (by rw[HTL.out];omega)
   rw[e] at HO
   go_wp2
   go_ret
   exact⟨_,rfl,HO.out,HB.out⟩
end Go.Proofs.YtmbcegljmhcdeaaGreat
namespace Go.Proofs.YtmbcegljmhcdeaaGreat
set_option maxRecDepth 5000
open Go.RowKit
theorem list4 : ∀ {b:List UInt8},4<=b.length -> ∃ x0 x1 x2 x3 r,b=x0::x1::x2::x3::r
 | x0::x1::x2::x3::r,_=>⟨x0,x1,x2,x3,r,rfl⟩
 | [],h=>by simp at h
 | [_],h=>by simp at h
 | [_,_],h=>by simp at h
 | [_,_,_],h=>by simp at h
theorem cut_hd {w:World} {b o:Nat} {l:List UInt8} {len cap:Nat} (k:Nat) (hs:SlL w (some ⟨b,o,none⟩) l) (hl:l.length=len) (hk:k<=len) (hc:len<=cap) :
 ∃ ad,(∀ W,(Instr.slice 37 (.slice (some ⟨b,o,none⟩) len cap) none (some (.int .i64 (k:Int))) none).run Tryz.prog W = .ok (.slice (some ad) k cap) W)/\SlL w (some ad) (l.take k):=by
 subst hl
 have h:=hs.slB
 refine⟨if cap=0 then ⟨b,o,none⟩ else (⟨b,o,none⟩:Addr).add (0*1),fun W=>?_,?_⟩
 ·rw[run_slice_h W 37 _ l.length cap Tryz.underlying37 .i64 (k:Int) (by omega) (by omega)]
  have hz:(sizeOf (Tryz.prog.elem 37)).run Tryz.prog W = .ok 1 W:=Tryz.sizeOf5 W
  rw[hz]
  simp only[Result.andThen,sliced,Int.toNat_natCast,Nat.sub_zero,Option.map_some]
  split <;> rfl
 ·have:=SlB.sl (h.part (k:=0) (cap:=cap) k (by omega) hc) (Nat.le_refl _)
  rw[List.drop_zero] at this
  split
  ·rename_i h0;rwa [if_pos h0] at this
  ·rename_i h0;rwa [if_neg h0,Option.map_some] at this
theorem cut_tl {w:World} {b o:Nat} {l:List UInt8} {len cap:Nat} (k:Nat) (hs:SlL w (some ⟨b,o,none⟩) l) (hl:l.length=len) (hk:k<=len) (hc:len<=cap) :
 ∃ ad,(∀ W,(Instr.slice 37 (.slice (some ⟨b,o,none⟩) len cap) (some (.int .i64 (k:Int))) none none).run Tryz.prog W = .ok (.slice (some ad) (len - k) (cap - k)) W)/\SlL w (some ad) (l.drop k):=by
 subst hl
 have h:=hs.slB
 refine⟨if cap=k then ⟨b,o,none⟩ else (⟨b,o,none⟩:Addr).add (k*1),fun W=>?_,?_⟩
 ·rw[run_slice_l W 37 _ l.length cap Tryz.underlying37 .i64 (k:Int) (by omega) (by omega)]
  have hz:(sizeOf (Tryz.prog.elem 37)).run Tryz.prog W = .ok 1 W:=Tryz.sizeOf5 W
  rw[hz]
  simp only[Result.andThen,sliced,Int.toNat_natCast,Option.map_some]
  split <;> rfl
 ·have:=SlB.sl (h.part (k:=k) (cap:=cap) (l.length - k) (by omega) hc) (Nat.le_refl _)
  rw[List.take_of_length_le (by rw[List.length_drop];omega)] at this
  split
  ·rename_i h0;rwa [if_pos h0] at this
  ·rename_i h0;rwa [if_neg h0,Option.map_some] at this
theorem cut_mid {w:World} {b o:Nat} {l:List UInt8} {len cap:Nat} (k m:Nat) (hs:SlL w (some ⟨b,o,none⟩) l) (hl:l.length=len) (hk:k+m<=len) (hc:len<=cap) :
 ∃ ad,(∀ W,(Instr.slice 37 (.slice (some ⟨b,o,none⟩) len cap) (some (.int .i64 (k:Int))) (some (.int .i64 ((k+m:Nat):Int))) none).run Tryz.prog W = .ok (.slice (some ad) m (cap - k)) W)/\SlL w (some ad) ((l.drop k).take m):=by
 subst hl
 have h:=hs.slB
 refine⟨if cap=k then ⟨b,o,none⟩ else (⟨b,o,none⟩:Addr).add (k*1),fun W=>?_,?_⟩
 ·rw[run_slice_lh W 37 _ l.length cap Tryz.underlying37 .i64 .i64 (k:Int) ((k+m:Nat):Int) (by omega) (by omega) (by omega)]
  have hz:(sizeOf (Tryz.prog.elem 37)).run Tryz.prog W = .ok 1 W:=Tryz.sizeOf5 W
  rw[hz]
  simp only[Result.andThen,sliced,Int.toNat_natCast,Option.map_some]
  rw[show k+m - k=m by omega]
  split <;> rfl
 ·have:=SlB.sl (h.part (k:=k) (cap:=cap) m (by omega) hc) (Nat.le_refl _)
  split
  ·rename_i h0;rwa [if_pos h0] at this
  ·rename_i h0;rwa [if_neg h0,Option.map_some] at this
set_option maxHeartbeats 1600000 in
theorem sKey_any (b:List UInt8) (ao:Option Addr) (len cap:Nat) (w:World) (hl:Hid (b.length=len)) (hs:SlL w ao b) (hc:len<=cap) (h8:len<=8192) :
 Calls Tryz.prog 122 #[.slice ao len cap] w fun e w'=>Ans (D.full b (D.key b)) KeyV (.agg #[.int .u16 0,.int .u8 0,.int .u8 0,.slice none 0 0]) w e w':=by
 rcases Nat.lt_or_ge len 4 with hlt | hge
 ·have hlt':(len:Int)<4:=by omega
  have HF:Hid (D.full b (D.key b)=none):=by
   refine D.full_none ?_
   have hl':=hl.out
   match b with
   | []=>rfl
   | [x]=>rfl
   | [x,y]=>rfl
   | [x,y,z]=>rfl
   | x::y::z::u::r=>simp at hl';omega
  have hb0:=(Below.refl w.heap.size w).alloc (Nat.le_refl _) (.cells #[.int .u16 0,.int .u8 0,.int .u8 0,.slice none 0 0] 179)
  have R0:=RowAt.new w 179 #[.int .u16 0,.int .u8 0,.int .u8 0,.slice none 0 0]
  have HB:=hide hb0
  have HR:=hide R0
  clear hs hb0 R0
  go_enter Tryz.func122,Tryz.ntmps122
  go_wp2
  generalize (w.alloc (.cells #[.int .u16 0,.int .u8 0,.int .u8 0,.slice none 0 0] 179))=F at HB HR ⊢
  have q0:F.cell? ⟨w.heap.size,0,none⟩=some (.int .u16 0):=HR.out.cell 0
  have q1:F.cell? ⟨w.heap.size,1,none⟩=some (.int .u8 0):=HR.out.cell 1
  have q2:F.cell? ⟨w.heap.size,2,none⟩=some (.int .u8 0):=HR.out.cell 2
  have q3:F.cell? ⟨w.heap.size,3,none⟩=some (.slice none 0 0):=HR.out.cell 3
  simp[bodyPost,results,Tryz.results122,go_sem,q0,q1,q2,q3]
  exact⟨Or.inr ⟨HF.out,rfl⟩,HB.out⟩
 ·have hge' : ¬ (len:Int)<4:=by omega
  have hl':=hl.out
  obtain⟨x0,x1,x2,x3,r,rfl⟩:=list4 (by omega:4<=b.length)
  obtain⟨blk,o,rfl,hblt,hcell⟩:=hs (by simp)
  have hb0:=(Below.refl w.heap.size w).alloc (Nat.le_refl _) (.cells #[.int .u16 0,.int .u8 0,.int .u8 0,.slice none 0 0] 179)
  have c2:w.cell? ⟨blk,o+2,none⟩=some (.int .u8 (x2.toNat:Int)):=hcell 2 (by simp)
  have c3:w.cell? ⟨blk,o+3,none⟩=some (.int .u8 (x3.toNat:Int)):=hcell 3 (by simp)
  obtain⟨ad1,r1,s1⟩:=cut_hd 2 hs hl.out (by omega) hc
  obtain⟨ad2,r2,s2⟩:=cut_tl 4 hs hl.out (by omega) hc
  replace r1 : ∀ W,(Instr.slice 37 (.slice (some ⟨blk,o,none⟩) len cap) none (some (.int .i64 2)) none).run Tryz.prog W = .ok (.slice (some ad1) 2 cap) W:=r1
  replace r2 : ∀ W,(Instr.slice 37 (.slice (some ⟨blk,o,none⟩) len cap) (some (.int .i64 4)) none none).run Tryz.prog W = .ok (.slice (some ad2) (len - 4) (cap - 4)) W:=r2
  have S1:Hid (SlL w (some ad1) [x0,x1]):=s1
  have S2:Hid (SlL w (some ad2) r):=s2
  have hrl:Hid (r.length=len - 4):=by simp at hl';show _=_;omega
  have hrl2:r.length<=8192:=by simp at hl';omega
  have hw16:IntKind.u16.wrap (D.gv [x0,x1]:Int)=(D.gv [x0,x1]:Int):=by
   have:=D.gv_lt [x0,x1]
   rw[IntKind.wrap_u16]
   simp at this;omega
  have HF:Hid (D.full (x0::x1::x2::x3::r) (D.key (x0::x1::x2::x3::r))=some ⟨D.gv [x0,x1],x2.toNat,x3.toNat,r⟩) :=
   D.full_some (by rw[hl.out];exact h8) (by unfold D.key;rw[D.n16_gv];rfl)
  have C2:=hide c2
  have C3:=hide c3
  have e2:(w.alloc (.cells #[.int .u16 0,.int .u8 0,.int .u8 0,.slice none 0 0] 179)).cell? ⟨blk,o+2,none⟩=some (.int .u8 (x2.toNat:Int)):=(hb0.cell (p:=⟨blk,o+2,none⟩) hblt).trans c2
  have e3:(w.alloc (.cells #[.int .u16 0,.int .u8 0,.int .u8 0,.slice none 0 0] 179)).cell? ⟨blk,o+3,none⟩=some (.int .u8 (x3.toNat:Int)):=(hb0.cell (p:=⟨blk,o+3,none⟩) hblt).trans c3
  have HB:=hide hb0
  have HR:=hide (RowAt.new w 179 #[.int .u16 0,.int .u8 0,.int .u8 0,.slice none 0 0])
  have i2:(2:Int)<(len:Int):=by omega
  have i3:(3:Int)<(len:Int):=by omega
  clear hs hb0 c2 c3 hcell s1 s2
  have hget : ∀ W,SlL W (some ad1) [x0,x1]->Calls Tryz.prog 158 #[.slice (some ad1) 2 cap] W fun e w'=>e = .returned (.int .u32 (D.gv [x0,x1]:Int))/\w'=W:=fun W h=>get_any [x0,x1] (some ad1) 2 cap W rfl h (by omega)
  generalize D.gv [x0,x1]=g at hw16 HF hget
  go_enter Tryz.func122,Tryz.ntmps122
  go_wp2
  go_region_law (first
   | (refine step_fn 158 _ _ rfl rfl #[.slice (some ad1) 2 cap] (by go_simp) (hget _ (by first | exact S1.out.alloc _ | exact S1.out.below B4.out (Nat.le_refl _))) (by rintro e w' ⟨rfl,_⟩;exact⟨_,rfl⟩) ?_;rintro v1 w1 ⟨he,rfl⟩;cases he)
   | (refine step_append_B rfl (.const (.slice none 0 0)) (.tmp 19) rfl w.heap.size (.slice none 0 0) [] rfl (OwnB.nil _ _) ad2 (len - 4) (cap - 4) r (by rfl) hrl.out (by exact S2.out.alloc _) (by simp;omega) (by simp) ?_;intro v4 w4 hO4 hG4;obtain⟨a4,c4,rfl,_,_,_⟩:=hO4.open;have K4:=hide (Kp.grown (OwnB.nil _ w.heap.size) hG4 (by simp));have B4:=hide (HB.out.drew.trans K4.out.1);have R4:=hide (K4.out.2 _ _ _ HR.out (by decide));have d2:w4.cell? ⟨blk,o+2,none⟩=some (.int .u8 (x2.toNat:Int)):=(B4.out.cell (p:=⟨blk,o+2,none⟩) hblt).trans C2.out;have d3:w4.cell? ⟨blk,o+3,none⟩=some (.int .u8 (x3.toNat:Int)):=(B4.out.cell (p:=⟨blk,o+3,none⟩) hblt).trans C3.out;have O4:=hide hO4;have k0:w4.cell? ⟨w.heap.size,0,none⟩=some (.int .u16 0):=R4.out.cell 0;have k1:w4.cell? ⟨w.heap.size,1,none⟩=some (.int .u8 0):=R4.out.cell 1;have k2:w4.cell? ⟨w.heap.size,2,none⟩=some (.int .u8 0):=R4.out.cell 2;have k3:w4.cell? ⟨w.heap.size,3,none⟩=some (.slice none 0 0):=R4.out.cell 3;have f0:=R4.out.frozen 0;have f1:=R4.out.frozen 1;have f2:=R4.out.frozen 2;have f3:=R4.out.frozen 3;clear hO4 hG4 K4))
  all_goals
   have E0:=R4.out
   have E1:RowAt ((w4).setCell ⟨w.heap.size,0,none⟩ (.int .u16 (g:Int))) w.heap.size 179 #[.int .u16 (g:Int),.int .u8 0,.int .u8 0,.slice none 0 0]:=E0.set 0 _
   have E2:RowAt (((w4).setCell ⟨w.heap.size,0,none⟩ (.int .u16 (g:Int))).setCell ⟨w.heap.size,1,none⟩ (.int .u8 (x2.toNat:Int))) w.heap.size 179 #[.int .u16 (g:Int),.int .u8 (x2.toNat:Int),.int .u8 0,.slice none 0 0]:=E1.set 1 _
   have E3:RowAt ((((w4).setCell ⟨w.heap.size,0,none⟩ (.int .u16 (g:Int))).setCell ⟨w.heap.size,1,none⟩ (.int .u8 (x2.toNat:Int))).setCell ⟨w.heap.size,2,none⟩ (.int .u8 (x3.toNat:Int))) w.heap.size 179 #[.int .u16 (g:Int),.int .u8 (x2.toNat:Int),.int .u8 (x3.toNat:Int),.slice none 0 0]:=E2.set 2 _
   have E4:RowAt (((((w4).setCell ⟨w.heap.size,0,none⟩ (.int .u16 (g:Int))).setCell ⟨w.heap.size,1,none⟩ (.int .u8 (x2.toNat:Int))).setCell ⟨w.heap.size,2,none⟩ (.int .u8 (x3.toNat:Int))).setCell ⟨w.heap.size,3,none⟩ (.slice a4 r.length c4)) w.heap.size 179 #[.int .u16 (g:Int),.int .u8 (x2.toNat:Int),.int .u8 (x3.toNat:Int),.slice a4 r.length c4]:=E3.set 3 _
   have UE:Upd w.heap.size w4 (((((w4).setCell ⟨w.heap.size,0,none⟩ (.int .u16 (g:Int))).setCell ⟨w.heap.size,1,none⟩ (.int .u8 (x2.toNat:Int))).setCell ⟨w.heap.size,2,none⟩ (.int .u8 (x3.toNat:Int))).setCell ⟨w.heap.size,3,none⟩ (.slice a4 r.length c4)):=(((((Upd.refl w.heap.size w4).set 0 (.int .u16 (g:Int))).set 1 (.int .u8 (x2.toNat:Int))).set 2 (.int .u8 (x3.toNat:Int))).set 3 (.slice a4 r.length c4))
   have HE:=hide E4
   have HU:=hide UE
   clear E0 E1 E2 E3 E4 UE
   go_wp2
   obtain⟨F,hwo⟩ : ∃ F,F=wof HE.out:=⟨_,rfl⟩
   unfold wof at hwo
   rw[<- hwo] at HE HU ⊢
   clear hwo
   have q0:F.cell? ⟨w.heap.size,0,none⟩=some (.int .u16 (g:Int)):=HE.out.cell 0
   have q1:F.cell? ⟨w.heap.size,1,none⟩=some (.int .u8 (x2.toNat:Int)):=HE.out.cell 1
   have q2:F.cell? ⟨w.heap.size,2,none⟩=some (.int .u8 (x3.toNat:Int)):=HE.out.cell 2
   have q3:F.cell? ⟨w.heap.size,3,none⟩=some (.slice a4 r.length c4):=HE.out.cell 3
   simp[bodyPost,results,Tryz.results122,go_sem,q0,q1,q2,q3]
   exact⟨Or.inl ⟨_,_,HF.out,rfl,⟨_,_,rfl,HU.out.own R4.out (by decide) O4.out⟩⟩,B4.out.trans (HU.out.below (Nat.le_refl _))⟩
open Go.RowKit
theorem nil_grown {w w':World} (h:w.drew.grownBy w' (Value.slice none 0 0).ownBlock):Below w.heap.size w w':=⟨h.os,h.tape,h.output,h.size,fun k hk=>h.block k hk (by simp[Value.ownBlock])⟩
theorem cell_far {W:World} {b g j o:Nat} {v:Value} (h:b≠g):(W.setCell ⟨g,j,none⟩ v).cell? ⟨b,o,none⟩=W.cell? ⟨b,o,none⟩:=World.cell?_of_block (w:=W) (a:=⟨b,o,none⟩) (Below.heap_setCell _ _ _ _ h)
theorem Upd.drew {g:Nat} {W F:World} (h:Upd g W F):Upd g W F.drew:=h
theorem RowAt.drew {w:World} {g t:Nat} {c:Array Value} (h:RowAt w g t c):RowAt w.drew g t c:=h
theorem row_facts9 {w:World} {g t:Nat} {c0 c1 c2 c3 c4 c5 c6 c7 c8:Value} (h:RowAt w g t #[c0,c1,c2,c3,c4,c5,c6,c7,c8]):w.cell? ⟨g,0,none⟩=some c0/\w.cell? ⟨g,1,none⟩=some c1/\w.cell? ⟨g,2,none⟩=some c2/\w.cell? ⟨g,3,none⟩=some c3/\w.cell? ⟨g,4,none⟩=some c4/\w.cell? ⟨g,5,none⟩=some c5/\w.cell? ⟨g,6,none⟩=some c6/\w.cell? ⟨g,7,none⟩=some c7/\w.cell? ⟨g,8,none⟩=some c8/\w.frozen? ⟨g,0,none⟩=false/\w.frozen? ⟨g,1,none⟩=false/\w.frozen? ⟨g,2,none⟩=false/\w.frozen? ⟨g,3,none⟩=false/\w.frozen? ⟨g,4,none⟩=false/\w.frozen? ⟨g,5,none⟩=false/\w.frozen? ⟨g,6,none⟩=false/\w.frozen? ⟨g,7,none⟩=false/\w.frozen? ⟨g,8,none⟩=false :=
 ⟨h.cell 0,h.cell 1,h.cell 2,h.cell 3,h.cell 4,h.cell 5,h.cell 6,h.cell 7,h.cell 8,h.frozen 0,h.frozen 1,h.frozen 2,h.frozen 3,h.frozen 4,h.frozen 5,h.frozen 6,h.frozen 7,h.frozen 8⟩
theorem row_facts6 {w:World} {g t:Nat} {c0 c1 c2 c3 c4 c5:Value} (h:RowAt w g t #[c0,c1,c2,c3,c4,c5]):w.cell? ⟨g,0,none⟩=some c0/\w.cell? ⟨g,1,none⟩=some c1/\w.cell? ⟨g,2,none⟩=some c2/\w.cell? ⟨g,3,none⟩=some c3/\w.cell? ⟨g,4,none⟩=some c4/\w.cell? ⟨g,5,none⟩=some c5/\w.frozen? ⟨g,0,none⟩=false/\w.frozen? ⟨g,1,none⟩=false/\w.frozen? ⟨g,2,none⟩=false/\w.frozen? ⟨g,3,none⟩=false/\w.frozen? ⟨g,4,none⟩=false/\w.frozen? ⟨g,5,none⟩=false :=
 ⟨h.cell 0,h.cell 1,h.cell 2,h.cell 3,h.cell 4,h.cell 5,h.frozen 0,h.frozen 1,h.frozen 2,h.frozen 3,h.frozen 4,h.frozen 5⟩
namespace D
theorem n8_take {l:List UInt8} (h:1<=l.length):n8 l=some ((l.getD 0 0).toNat,l.drop 1):=by
 match l with
 | x::r=>rfl
 | []=>simp at h
theorem n16_take {l:List UInt8} (h:2<=l.length):n16 l=some (gv (l.take 2),l.drop 2):=by
 match l with
 | x::y::r=>exact n16_gv x y r
 | [x]=>simp at h
 | []=>simp at h
theorem n32_take {l:List UInt8} (h:4<=l.length):n32 l=some (gv (l.take 4),l.drop 4):=by
 obtain⟨x,y,z,u,r,rfl⟩:=list4 h
 exact n32_gv x y z u r
theorem soa_len {l r1 r2 r:List UInt8} {m x:List (List UInt8)} {s:Soa} (h1:nm l=some (m,r1)) (h2:nm r1=some (x,r2)) (h:soa l=some (s,r)):r2.length=20+r.length:=by
 simp only[soa,Option.bind_eq_some_iff,Option.map_eq_some_iff,Prod.exists] at h
 obtain⟨m',q1,g1,x',q2,g2,a,r3,h3,b,r4,h4,c,r5,h5,d,r6,h6,e,r7,h7,h⟩:=h
 rw[h1] at g1;cases g1
 rw[h2] at g2;cases g2
 cases h
 have l3:=congrArg List.length (n32_back h3).1
 have l4:=congrArg List.length (n32_back h4).1
 have l5:=congrArg List.length (n32_back h5).1
 have l6:=congrArg List.length (n32_back h6).1
 have l7:=congrArg List.length (n32_back h7).1
 simp only[List.length_append,p32_len] at l3 l4 l5 l6 l7
 omega
theorem soa_ref {l r1 r2:List UInt8} {m x:List (List UInt8)} (h1:nm l=some (m,r1)) (h2:nm r1=some (x,r2)) (h:r2.length=20) :
 soa l=some (⟨m,x,gv (r2.take 4),gv ((r2.drop 4).take 4),gv ((r2.drop 8).take 4),gv ((r2.drop 12).take 4),gv (r2.drop 16)⟩, []):=by
 unfold soa
 rw[h1];simp only[Option.bind_some]
 rw[h2];simp only[Option.bind_some]
 rw[n32_take (by omega)];simp only[Option.bind_some]
 rw[n32_take (by rw[List.length_drop];omega)];simp only[Option.bind_some,List.drop_drop]
 rw[n32_take (by rw[List.length_drop];omega)];simp only[Option.bind_some,List.drop_drop]
 rw[n32_take (by rw[List.length_drop];omega)];simp only[Option.bind_some,List.drop_drop]
 rw[n32_take (by rw[List.length_drop];omega)];simp only[Option.map_some,List.drop_drop]
 have e1:(r2.drop 16).take 4=r2.drop 16:=List.take_of_length_le (by rw[List.length_drop];omega)
 have e2:r2.drop 20 = []:=List.drop_eq_nil_of_le (by omega)
 show some ((⟨m,x,gv (r2.take 4),gv ((r2.drop 4).take 4),gv ((r2.drop 8).take 4),gv ((r2.drop 12).take 4),gv ((r2.drop 16).take 4)⟩:Soa),r2.drop 20)=_
 rw[e1,e2]
theorem soa_not {l r1 r2:List UInt8} {m x:List (List UInt8)} (h1:nm l=some (m,r1)) (h2:nm r1=some (x,r2)) (h:r2.length≠20):full l (soa l)=none:=by
 cases hh:full l (soa l) with
 | none=>rfl
 | some s =>
  have:=soa_len h1 h2 (full_iff.1 hh).2
  simp at this;omega
theorem soa_no1 {l:List UInt8} (h1:nm l=none):full l (soa l)=none:=full_none (by unfold soa;rw[h1];rfl)
theorem soa_no2 {l r1:List UInt8} {m:List (List UInt8)} (h1:nm l=some (m,r1)) (h2:nm r1=none):full l (soa l)=none:=full_none (by unfold soa;rw[h1];simp only[Option.bind_some];rw[h2];rfl)
theorem sig_ref {l r:List UInt8} {n:List (List UInt8)} (hl:18<=l.length) (h:nm (l.drop 18)=some (n,r)) :
 sig l=some (⟨gv (l.take 2),(l.getD 2 0).toNat,(l.getD 3 0).toNat,gv ((l.drop 4).take 4),gv ((l.drop 8).take 4),gv ((l.drop 12).take 4),gv ((l.drop 16).take 2),n,r⟩, []):=by
 unfold sig
 rw[n16_take (by omega)];simp only[Option.bind_some]
 rw[n8_take (by rw[List.length_drop];omega)];simp only[Option.bind_some,List.drop_drop]
 rw[n8_take (by rw[List.length_drop];omega)];simp only[Option.bind_some,List.drop_drop]
 rw[n32_take (by rw[List.length_drop];omega)];simp only[Option.bind_some,List.drop_drop]
 rw[n32_take (by rw[List.length_drop];omega)];simp only[Option.bind_some,List.drop_drop]
 rw[n32_take (by rw[List.length_drop];omega)];simp only[Option.bind_some,List.drop_drop]
 rw[n16_take (by rw[List.length_drop];omega)];simp only[Option.bind_some,List.drop_drop]
 rw[h]
 simp[List.getD_eq_getElem?_getD,List.getElem?_drop]
theorem sig_no {l:List UInt8} (h:l.length<18\/nm (l.drop 18)=none):full l (sig l)=none:=by
 cases hh:full l (sig l) with
 | none=>rfl
 | some s =>
  have h2:=(full_iff.1 hh).2
  simp only[sig,Option.bind_eq_some_iff,Option.map_eq_some_iff,Prod.exists] at h2
  obtain⟨t,r1,h1,a,r2,h2,k,r3,h3,x,r4,h4,y,r5,h5,z,r6,h6,g,r7,h7,n,r8,h8,_⟩:=h2
  have e1:=(n16_back h1).1
  have e2:=(n8_back h2).1
  have e3:=(n8_back h3).1
  have e4:=(n32_back h4).1
  have e5:=(n32_back h5).1
  have e6:=(n32_back h6).1
  have e7:=(n16_back h7).1
  have hd:l.drop 18=r7:=by rw[e1,e2,e3,e4,e5,e6,e7];rfl
  have hl:l.length=18+r7.length:=by rw[e1,e2,e3,e4,e5,e6,e7];simp only[List.length_append,List.length_cons,p16_len,p32_len];omega
  rcases h with h | h
  ·omega
  ·rw[hd,h8] at h;cases h
end D
open Go.RowKit
theorem nil_grown0 {w w':World} (h:w.grownBy w' (Value.slice none 0 0).ownBlock):Below w.heap.size w w':=⟨h.os,h.tape,h.output,h.size,fun k hk=>h.block k hk (by simp[Value.ownBlock])⟩
namespace D
theorem cnt_take {l:List UInt8} (h:1<=l.length):cnt l=by_ (l.getD 0 0).toNat (l.drop 1):=by
 unfold cnt
 rw[n8_take h];rfl
theorem getD_drop (l:List UInt8) (i j:Nat):(l.drop i).getD j 0=l.getD (i+j) 0:=by
 simp[List.getD_eq_getElem?_getD,List.getElem?_drop]
theorem chain_eq {l:List UInt8} (h:5<=l.length) :
 chain l=(by_ (l.getD 4 0).toNat (l.drop 5)).bind fun s=>(cnt s.2).bind fun n=>if n.1.length=0 then none else (T.opn 0 n.2).map fun t=>((⟨(l.getD 0 0).toNat,(l.getD 1 0).toNat,gv ((l.drop 2).take 2),s.1,n.1,t⟩:Chain),([]:List UInt8)):=by
 unfold chain
 rw[n8_take (by omega)];simp only[Option.bind_some]
 rw[n8_take (by rw[List.length_drop];omega)];simp only[Option.bind_some,List.drop_drop]
 rw[n16_take (by rw[List.length_drop];omega)];simp only[Option.bind_some,List.drop_drop]
 rw[cnt_take (by rw[List.length_drop];omega),List.drop_drop,getD_drop,getD_drop]
theorem chain_no1 {l:List UInt8} (h:l.length<5):full l (chain l)=none:=by
 refine full_none ?_
 match l with
 | []=>rfl
 | [x]=>rfl
 | [x,y]=>rfl
 | [x,y,z]=>rfl
 | [x,y,z,u]=>rfl
 | x::y::z::u::v::r=>simp at h;omega
theorem chain_no2 {l:List UInt8} (h:5<=l.length) (h2:l.length<5+(l.getD 4 0).toNat+1):full l (chain l)=none:=by
 refine full_none ?_
 rw[chain_eq h]
 unfold by_
 split
 ·rfl
 ·rename_i h3
  rw[List.length_drop] at h3
  simp only[Option.bind_some,List.drop_drop]
  have:l.drop (5+(l.getD 4 0).toNat) = []:=List.drop_eq_nil_of_le (by omega)
  rw[this];rfl
theorem chain_next {l:List UInt8} {i:Nat} (h:5<=l.length) (hi:5+(l.getD 4 0).toNat=i) (h2:i+1<=l.length) :
 chain l=(by_ (l.getD i 0).toNat (l.drop (i+1))).bind fun n=>if n.1.length=0 then none else (T.opn 0 n.2).map fun t=>((⟨(l.getD 0 0).toNat,(l.getD 1 0).toNat,gv ((l.drop 2).take 2),(l.drop 5).take (l.getD 4 0).toNat,n.1,t⟩:Chain),([]:List UInt8)):=by
 rw[chain_eq h]
 have e:by_ (l.getD 4 0).toNat (l.drop 5)=some ((l.drop 5).take (l.getD 4 0).toNat,l.drop i):=by
  unfold by_
  rw[if_neg (by rw[List.length_drop];omega),List.drop_drop,hi]
 rw[e]
 simp only[Option.bind_some]
 rw[cnt_take (by rw[List.length_drop];omega),List.drop_drop,getD_drop,Nat.add_zero]
theorem chain_no3 {l:List UInt8} {i:Nat} (h:5<=l.length) (hi:5+(l.getD 4 0).toNat=i) (h2:i+1<=l.length) (h3:(l.getD i 0).toNat=0\/l.length<i+1+(l.getD i 0).toNat):full l (chain l)=none:=by
 refine full_none ?_
 rw[chain_next h hi h2]
 unfold by_
 split
 ·rfl
 ·rename_i h4
  rw[List.length_drop] at h4
  simp only[Option.bind_some]
  rw[if_pos]
  rw[List.length_take];omega
theorem chain_last {l:List UInt8} {i k:Nat} (h:5<=l.length) (hi:5+(l.getD 4 0).toNat=i) (h2:i+1<=l.length) (h0:(l.getD i 0).toNat≠0) (hk:i+1+(l.getD i 0).toNat=k) (h3:k<=l.length) :
 chain l=(T.opn 0 (l.drop k)).map fun t=>((⟨(l.getD 0 0).toNat,(l.getD 1 0).toNat,gv ((l.drop 2).take 2),(l.drop 5).take (l.getD 4 0).toNat,(l.drop (i+1)).take (l.getD i 0).toNat,t⟩:Chain),([]:List UInt8)):=by
 rw[chain_next h hi h2]
 unfold by_
 rw[if_neg (by rw[List.length_drop];omega)]
 simp only[Option.bind_some,List.drop_drop]
 rw[if_neg (by rw[List.length_take,List.length_drop];omega),hk]
theorem chain_no4 {l:List UInt8} {i k:Nat} (h:5<=l.length) (hi:5+(l.getD 4 0).toNat=i) (h2:i+1<=l.length) (h0:(l.getD i 0).toNat≠0) (hk:i+1+(l.getD i 0).toNat=k) (h3:k<=l.length) (ho:T.opn 0 (l.drop k)=none):full l (chain l)=none :=
 full_none (by rw[chain_last h hi h2 h0 hk h3,ho];rfl)
end D
end Go.Proofs.YtmbcegljmhcdeaaGreat
