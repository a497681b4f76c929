/- takeSoa .. (texts of stage 5, at this seat). -/
import Derived.Test.YtmbcegljmhcdeaaGreatAsG
namespace Go.Proofs.YtmbcegljmhcdeaaGreat
set_option maxRecDepth 5000
open Go.RowKit
namespace T
def typUp (w:Nat) (b:List UInt8) (p:Nat):List UInt16:=((List.range p).filter (has b)).map (mk w)
theorem typUp_all (w:Nat) (b:List UInt8):typUp w b (8*b.length)=typ w b:=rfl
theorem typUp_yes (w:Nat) (b:List UInt8) (p:Nat) (h:has b p=true):typUp w b (p+1)=typUp w b p ++ [mk w p]:=by
 unfold typUp;rw[List.range_succ,List.filter_append,List.map_append];simp[h]
theorem typUp_no (w:Nat) (b:List UInt8) (p:Nat) (h:has b p=false):typUp w b (p+1)=typUp w b p:=by
 unfold typUp;rw[List.range_succ,List.filter_append,List.map_append];simp[h]
theorem typUp_len (w:Nat) (b:List UInt8) (p:Nat):(typUp w b p).length<=p:=by
 unfold typUp;rw[List.length_map];exact Nat.le_trans (List.length_filter_le _ _) (by simp)
theorem and_has (b:List UInt8) (p:Nat):((b.getD (p / 8) 0).toNat &&& 2 ^ (7 - p % 8)≠0)↔has b p=true:=by
 unfold has
 generalize (b.getD (p / 8) 0).toNat=y
 generalize 7 - p % 8=k
 constructor
 ·intro h
  cases hb:y.testBit k
  ·refine absurd (Nat.eq_of_testBit_eq fun i=>?_) h
   rw[Nat.testBit_and,Nat.testBit_two_pow,Nat.zero_testBit]
   by_cases e:k=i
   ·subst e;simp[hb]
   ·simp[e]
  ·rfl
 ·intro h e
  have:=congrArg (fun z=>Nat.testBit z k) e
  simp[Nat.testBit_and,h] at this
def okw (least:Nat):List UInt8->Option Nat
 | x::n::r=>if bad least x n r then none else some (2+n.toNat)
 | _=>none
def okv:Option Nat->Value
 | some k => .tuple #[.int .i64 (k:Int),.bool true]
 | none => .tuple #[.int .i64 0,.bool false]
end T
set_option maxHeartbeats 3200000 in
theorem appendTypes_any (H:Nat) (bs:List UInt8) (m:List UInt16) (B b o n cap:Nat) (v:Value) (w:World) (hl:Hid (bs.length=n)) (hn:n<=32) (hn0:0<n) (hH:H<256) (hs:SlL w (some ⟨b,o,none⟩) bs) (hb:b<B) (hO:OwnH w B v m) (hB:B<=w.heap.size) (hm:m.length<=1000000) :
 Calls Tryz.prog 210 #[v,.int .i64 (H:Int),.slice (some ⟨b,o,none⟩) n cap] w fun e w' => ∃ v',e = .returned v'/\OwnH w' B v' (m++T.typ H bs)/\Below B w w':=by
 obtain⟨b',o',e,hb',hc⟩:=hs (by rw[hl.out];exact hn0)
 cases e
 rw[hl.out] at hc
 clear hs
 go_enter Tryz.func210,Tryz.ntmps210
 go_wp2
 go_loopw [0,11] (fun v u W => ∃ p:Nat,u = .int .i64 (p:Int)/\p<=8*n/\OwnH W B v (m++T.typUp H bs p)/\Below B w W) (fun _ u _=>8*n - (intOf u).toNat)
 case atStart=>exact⟨0,rfl,by omega,(by simpa [T.typUp] using hO),Below.refl _ _⟩
 case round =>
  clear hO
  obtain⟨p,rfl,hp,hO,hBw⟩:=hrel
  have hz:=hBw.size
  by_cases hpn:p<8*n
  ·obtain⟨k,hk⟩ : ∃ k,p / 8=k:=⟨_,rfl⟩
   have hkn:k<n:=by omega
   have e2:(p:Int) / 8=(k:Int):=by omega
   have e2':Int.tdiv (p:Int) 8=(k:Int):=by rw[Int.tdiv_eq_ediv_of_nonneg (by omega)];exact e2
   have e4:IntKind.i64.wrap (k:Int)=(k:Int):=wrap_nat k (by omega)
   have epn:(p:Int)<8*(n:Int):=by omega
   have hx:=(hBw.cell (p:=⟨b,o+k,none⟩) hb).trans (hc k hkn)
   have hhas:=T.and_has bs p
   rw[hk] at hhas
   obtain⟨y,hy⟩ : ∃ y,bs.getD k 0=y:=⟨_,rfl⟩
   rw[hy] at hx hhas
   obtain⟨q,hq⟩ : ∃ q:Nat,2 ^ (7 - p % 8)=q:=⟨_,rfl⟩
   have hq3:q<256:=by
    rw[<- hq]
    have:2 ^ (7 - p % 8)<2 ^ 8:=Nat.pow_lt_pow_right (by omega) (by omega)
    omega
   rw[hq] at hhas
   have cb:=fun W=>bitOf_any p (by omega) W
   rw[hq] at cb
   have e3:=u8_and_nat y.toNat q y.toNat_lt hq3
   obtain⟨z,hzz⟩ : ∃ z:Nat,y.toNat &&& q=z:=⟨_,rfl⟩
   rw[hzz] at hhas e3
   have hml:(m++T.typUp H bs p).length<=1000256:=by rw[List.length_append];have:=T.typUp_len H bs p;omega
   have HH:=hide hhas
   have HO:=hide hO
   clear hhas hO hzz hq hy hk
   by_cases hz0:z=0
   ·have hno:T.has bs p=false:=by
     have : ¬ T.has bs p=true:=fun h=>(HH.out.2 h) hz0
     simpa using this
    have e5:((z:Int) != 0)=false:=by simp[hz0]
    go_wp2
    go_quiet (first | (go_at_call 219;refine Calls.quiet_of_same (cb _)))
    go_wp2
    go_roundw
    case rel=>exact⟨p+1,by go_num,by omega,(by rw[T.typUp_no H bs p hno];exact HO.out),⟨hBw.os,hBw.tape,hBw.output,hBw.size,hBw.block⟩⟩
    case measure=>simp[intOf];omega
   ·have hyes:T.has bs p=true:=HH.out.1 hz0
    have e5:((z:Int) != 0)=true:=by simp[hz0]
    go_wp2
    go_quiet (first | (go_at_call 219;refine Calls.quiet_of_same (cb _)))
    have HO2:Hid (OwnH (wr.drewN nq) B u0 (m++T.typUp H bs p)):=HO.out
    have hBw2:Below B w (wr.drewN nq):=⟨hBw.os,hBw.tape,hBw.output,hBw.size,hBw.block⟩
    have hz2:B<=(wr.drewN nq).heap.size:=by show B<=wr.heap.size;omega
    have e6:IntKind.u16.wrap ((H:Int)*256+(p:Int))=((T.mk H p).toNat:Int):=by
     rw[T.mk_nat H p hH (by omega),IntKind.wrap_u16];omega
    clear hBw HO hx
    generalize wr.drewN nq=w2 at HO2 hBw2 hz2 ⊢
    go_wp2_with (at_builtin;refine wpList_append_H rfl (.tmp 23) (.tmp 29) rfl B _ (m++T.typUp H bs p) rfl (by exact HO2.out.alloc _) _ _ _ [T.mk H p] rfl rfl (SlH.oneI _ _ _ _ (by rfl)) (by simp) (by simp at hml ⊢; omega) (by simp;omega) ?_;intro v4 w4 hO4 hG4;have hB4:=grown_belowH (HO2.out.alloc _) hG4 (hBw2.alloc hz2 _) (by simp;omega);clear hG4)
    go_roundw
    case rel=>exact⟨p+1,by go_num,by omega,(by rw[T.typUp_yes H bs p hyes, <- List.append_assoc];exact hO4),hB4⟩
    case measure=>simp[intOf];omega
  ·obtain rfl:p=8*n:=by omega
   have epn : ¬ ((8*n:Nat):Int)<8*(n:Int):=by omega
   go_wp2
   go_ret
   refine⟨_,rfl,?_,hBw⟩
   rw[<- hl.out,T.typUp_all] at hO
   exact hO
open Go.RowKit
theorem SlL.take {w:World} {ao:Option Addr} {l:List UInt8} (h:SlL w ao l) (k:Nat):SlL w ao (l.take k):=fun hn=>by
 rw[List.length_take] at hn
 obtain⟨b,o,e,hlt,hc⟩:=h (by omega)
 refine⟨b,o,e,hlt,fun j hj=>?_⟩
 rw[List.length_take] at hj
 rw[hc j (by omega),List.getD_eq_getElem?_getD,List.getD_eq_getElem?_getD,List.getElem?_take_of_lt (by omega)]
set_option maxHeartbeats 3200000 in
theorem openWindow_any (l:List UInt8) (ao:Option Addr) (len cap least:Nat) (w:World) (hl:Hid (l.length=len)) (hs:SlL w ao l) (hlen:len<=1000000) :
 Calls Tryz.prog 209 #[.slice ao len cap,.int .i64 (least:Int)] w fun e w'=>e = .returned (T.okv (T.okw least l))/\w'=w:=by
 by_cases h2:len<2
 ·have hok:T.okw least l=none:=by
   match l,hl with
   | [],_=>rfl
   | [_],_=>rfl
   | _::_::_,h=>have:=h.out;simp at this;omega
  rw[hok]
  have e2:(len:Int)<2:=by omega
  clear hs
  go_enter Tryz.func209,Tryz.ntmps209
  go_wp2
  go_ret2
  exact⟨rfl,rfl⟩
 ·have e2 : ¬ (len:Int)<2:=by omega
  obtain⟨b,o,rfl,hb,hc⟩:=hs (by rw[hl.out];omega)
  rw[hl.out] at hc
  obtain⟨x,n,r,rfl⟩ : ∃ x n r,l=x::n::r:=by
   match l,hl with
   | [],h=>have:=h.out;simp at this;omega
   | [_],h=>have:=h.out;simp at this;omega
   | x::n::r,_=>exact⟨x,n,r,rfl⟩
  have c0:w.cell? ⟨b,o,none⟩=some (.int .u8 (x.toNat:Int)):=hc 0 (by omega)
  have c1:w.cell? ⟨b,o+1,none⟩=some (.int .u8 (n.toNat:Int)):=hc 1 (by omega)
  have hrl:r.length+2=len:=by have:=hl.out;simpa using this
  have hx:=x.toNat_lt
  have hn:=n.toNat_lt
  have ex:IntKind.i64.wrap (x.toNat:Int)=(x.toNat:Int):=wrap_nat _ (by omega)
  have en:IntKind.i64.wrap (n.toNat:Int)=(n.toNat:Int):=wrap_nat _ (by omega)
  obtain⟨X,hX⟩ : ∃ X:Nat,x.toNat=X:=⟨_,rfl⟩
  obtain⟨M,hM⟩ : ∃ M:Nat,n.toNat=M:=⟨_,rfl⟩
  rw[hX] at c0 hx ex
  rw[hM] at c1 hn en
  have HB:Hid (T.bad least x n r↔(X<least\/M=0\/32<M\/r.length<M\/r.getD (M - 1) 0=0)):=by
   show T.bad least x n r↔_
   unfold T.bad;rw[hX,hM]
  have HOK:Hid (T.okw least (x::n::r)=if T.bad least x n r then none else some (2+M)):=by
   show T.okw least (x::n::r)=_
   rw[<- hM];rfl
  by_cases b1:X<least
  ·have e3:(X:Int)<(least:Int):=by omega
   have hok:T.okw least (x::n::r)=none:=by rw[HOK.out,if_pos (HB.out.2 (Or.inl b1))]
   rw[hok]
   clear hc hX hM hrl hl hs
   go_enter Tryz.func209,Tryz.ntmps209
   go_wp2
   go_ret2
   exact⟨rfl,rfl⟩
  ·have e3 : ¬ (X:Int)<(least:Int):=by omega
   by_cases b2:M=0
   ·have e4:((M:Int) == 0)=true:=by simp[b2]
    have hok:T.okw least (x::n::r)=none:=by rw[HOK.out,if_pos (HB.out.2 (Or.inr (Or.inl b2)))]
    rw[hok]
    clear hc hX hM hrl hl hs b2
    go_enter Tryz.func209,Tryz.ntmps209
    go_wp2
    go_ret2
    exact⟨rfl,rfl⟩
   ·have e4:((M:Int) == 0)=false:=by simp;omega
    by_cases b3:32<M
    ·have e5:(32:Int)<(M:Int):=by omega
     have hok:T.okw least (x::n::r)=none:=by rw[HOK.out,if_pos (HB.out.2 (Or.inr (Or.inr (Or.inl b3))))]
     rw[hok]
     clear hc hX hM hrl hl hs b2
     go_enter Tryz.func209,Tryz.ntmps209
     go_wp2
     go_ret2
     exact⟨rfl,rfl⟩
    ·have e5 : ¬ (32:Int)<(M:Int):=by omega
     by_cases b4:r.length<M
     ·have e6:(len:Int)<2+(M:Int):=by omega
      have hok:T.okw least (x::n::r)=none:=by rw[HOK.out,if_pos (HB.out.2 (Or.inr (Or.inr (Or.inr (Or.inl b4)))))]
      rw[hok]
      clear hc hX hM hrl hl hs b2
      go_enter Tryz.func209,Tryz.ntmps209
      go_wp2
      go_ret2
      exact⟨rfl,rfl⟩
     ·have e6 : ¬ (len:Int)<2+(M:Int):=by omega
      have c2:=hc (1+M) (by omega)
      rw[show (x::n::r).getD (1+M) 0=r.getD (M - 1) 0 by
       rw[show 1+M=(M - 1)+2 by omega];rfl] at c2
      obtain⟨y,hy⟩ : ∃ y,r.getD (M - 1) 0=y:=⟨_,rfl⟩
      rw[hy] at c2
      obtain⟨j,hj⟩ : ∃ j:Nat,1+M=j:=⟨_,rfl⟩
      rw[hj] at c2
      have hjl:j<len:=by omega
      have ej:2+(M:Int) - 1=(j:Int):=by omega
      by_cases b5:y=0
      ·have e7:((y.toNat:Int) == 0)=true:=by simp[b5]
       have hok:T.okw least (x::n::r)=none:=by rw[HOK.out,if_pos (HB.out.2 (Or.inr (Or.inr (Or.inr (Or.inr (by rw[hy];exact b5))))))]
       rw[hok]
       clear hc hX hM hrl hl hs b2 hy hj b5
       go_enter Tryz.func209,Tryz.ntmps209
       go_wp2
       go_ret2
       exact⟨rfl,rfl⟩
      ·have e7:((y.toNat:Int) == 0)=false:=by
        have:y.toNat≠0:=fun h=>b5 (UInt8.toNat_inj.1 h)
        simp;omega
       have hok:T.okw least (x::n::r)=some (2+M):=by
        rw[HOK.out,if_neg]
        rintro hb
        rcases HB.out.1 hb with h | h | h | h | h
        ·exact b1 h
        ·exact b2 h
        ·exact b3 h
        ·exact b4 h
        ·rw[hy] at h;exact b5 h
       rw[hok]
       clear hc hX hM hrl hl hs b2 hy hj b5
       go_enter Tryz.func209,Tryz.ntmps209
       go_wp2
       go_ret2
       exact⟨by simp[T.okv],rfl⟩
open Go.RowKit
namespace T
theorem okw_none {least:Nat} {l:List UInt8} (h:okw least l=none) (h0:0<l.length):opn least l=none:=by
 match l,h,h0 with
 | [x],_,_=>exact opn_one least x
 | x::n::r,h,_ =>
  rw[opn_two]
  by_cases hb:bad least x n r
  ·rw[if_pos hb]
  ·rw[okw,if_neg hb] at h;cases h
theorem okw_some {least k:Nat} {l:List UInt8} (h:okw least l=some k) : ∃ x n r,l=x::n::r/\k=2+n.toNat/\0<n.toNat/\n.toNat<=32/\n.toNat<=r.length/\opn least l=(opn (x.toNat+1) (r.drop n.toNat)).map (typ x.toNat (r.take n.toNat) ++ ·):=by
 match l,h with
 | x::n::r,h =>
  by_cases hb:bad least x n r
  ·rw[okw,if_pos hb] at h;cases h
  ·rw[okw,if_neg hb] at h
   have hk:=Option.some.inj h
   have hb':=hb
   unfold bad at hb'
   exact⟨x,n,r,rfl,hk.symm,by omega,by omega,by omega,by rw[opn_two,if_neg hb]⟩
theorem typ_len (w:Nat) (b:List UInt8):(typ w b).length<=8*b.length:=by
 unfold typ places;rw[List.length_map];exact Nat.le_trans (List.length_filter_le _ _) (by simp)
end T
set_option maxRecDepth 3000 in
set_option maxHeartbeats 3200000 in
theorem topen_any (l:List UInt8) (ao:Option Addr) (len cap:Nat) (w:World) (hl:Hid (l.length=len)) (hs:SlL w ao l) (hc1:len<=cap) (hc2:cap<=9223372036854775807) (hlen:len<=100000) :
 Calls Tryz.prog 186 #[.slice ao len cap] w fun e w'=>Below w.heap.size w w'/\((∃ m v,T.opn 0 l=some m/\e = .returned (.tuple #[v,.int .i64 0])/\OwnH w' w.heap.size v m)\/(T.opn 0 l=none/\e = .returned (.tuple #[.slice none 0 0,.int .i64 40]))):=by
 go_enter Tryz.func186,Tryz.ntmps186
 go_wp2
 go_loopw [0,4,5] (fun v0 v4 v5 W => ∃ (rest:List UInt8) (ao:Option Addr) (cap least:Nat) (m:List UInt16),v0 = .slice ao rest.length cap/\v5 = .int .i64 (least:Int)/\SlL w ao rest/\rest.length<=cap/\cap<=9223372036854775807/\rest.length<=len/\least<=256/\OwnH W w.heap.size v4 m/\Below w.heap.size w W/\m.length+8*rest.length<=8*len/\T.opn 0 l=(T.opn least rest).map (m ++ ·)) (fun v0 _ _ _=>lenOf v0)
 case atStart=>exact⟨l,ao,cap,0, [],by rw[hl.out],rfl,hs,by rw[hl.out];exact hc1,hc2,by rw[hl.out];exact Nat.le_refl _,by omega,OwnH.nil _ _,Below.refl _ _,by rw[hl.out];simp,by cases T.opn 0 l <;> simp⟩
 case round =>
  clear hs hc1 hc2
  obtain⟨rest,ao2,cap2,least,m,rfl,rfl,hS,hcap,hmax,hrl,hle,hO,hB,hml,hE⟩:=hrel
  have hz:=hB.size
  have HE:=hide hE
  have HO:=hide hO
  clear hE hO
  by_cases h0:rest.length=0
  ·obtain rfl:rest = []:=List.eq_nil_of_length_eq_zero h0
   go_wp2
   go_ret2
   refine⟨hB,Or.inl ⟨m,_,?_,rfl,HO.out⟩⟩
   rw[HE.out,T.opn_nil];simp
  ·have e0:(0:Int)<(rest.length:Int):=by omega
   have hSw:SlL wr ao2 rest:=hS.below hB (Nat.le_refl _)
   have cw:=openWindow_any rest ao2 rest.length cap2 least wr rfl hSw (by omega)
   cases hok:T.okw least rest with
   | none =>
    rw[hok] at cw
    have hnone:=T.okw_none hok (by omega)
    have HN:=hide hnone
    clear hnone hok
    go_wp2_with (go_at_call 209;refine cw.mono ?_;unfold T.okv;rintro e w2 ⟨rfl,rfl⟩)
    go_ret2
    exact⟨hB,Or.inr ⟨by rw[HE.out,HN.out];rfl,rfl⟩⟩
   | some k =>
    rw[hok] at cw
    obtain⟨x,n,r,rfl,rfl,n0,n32,nr,hop⟩:=T.okw_some hok
    obtain⟨b,o,rfl,hb,hcc⟩:=hS (by omega)
    have hrl2:(x::n::r).length=r.length+2:=by simp
    rw[hrl2] at cw hcap hrl hml hcc e0
    obtain⟨_,_,e,_,hcr⟩:=hSw (by simp)
    cases e
    have c0:wr.cell? ⟨b,o,none⟩=some (.int .u8 (x.toNat:Int)):=hcr 0 (by simp)
    have hx:=x.toNat_lt
    have htl:=T.typ_len x.toNat (r.take n.toNat)
    rw[List.length_take] at htl
    have hS2:SlL wr (some ⟨b,o+2,none⟩) (r.take n.toNat):=by
     have:=(SlL.drop (k:=2) hSw (by simp)).take n.toNat
     simpa using this
    have hS3:SlL w (some ⟨b,o+(2+n.toNat),none⟩) (r.drop n.toNat):=by
     have:=SlL.drop (k:=2+n.toNat) hS (by simp;omega)
     rw[show (x::n::r).drop (2+n.toNat)=r.drop n.toNat by
      rw[show 2+n.toNat=n.toNat+2 by omega];rfl] at this
     exact this
    have hd3:(r.drop n.toNat).length=r.length - n.toNat:=List.length_drop
    have htk:(r.take n.toNat).length=n.toNat:=by rw[List.length_take];omega
    obtain⟨X,hX⟩ : ∃ X:Nat,x.toNat=X:=⟨_,rfl⟩
    obtain⟨M,hM⟩ : ∃ M:Nat,n.toNat=M:=⟨_,rfl⟩
    rw[hX] at c0 hx htl hop
    rw[hM] at n0 n32 nr hop hS2 hS3 hd3 htk htl cw
    have ex:IntKind.i64.wrap (X:Int)=(X:Int):=wrap_nat _ (by omega)
    have ca:=fun v hO=>appendTypes_any X (r.take M) m w.heap.size b (o+2) M (cap2 - 2) v wr htk n32 n0 hx hS2 hb hO hz (by omega)
    have hne : ¬ cap2=2:=by omega
    have hle2:2+M<=cap2:=by omega
    have hle3:2+M<=r.length+2:=by omega
    have HOP:=hide hop
    have HD:=hide hd3
    have HTL:=hide htl
    have HTK:=hide htk
    clear hcc hcr hS hSw hS2 hX hM hok hop hd3 htl htk
    generalize r.take M=rt at *
    generalize hrd:r.drop M=rd at *
    clear hrd
    simp only[List.length_cons]
    go_wp2_with (first
     | (go_at_call 209;refine cw.mono ?_;unfold T.okv;rintro e w2 ⟨rfl,rfl⟩)
     | (go_at_call 210;refine (ca _ HO.out).mono ?_;rintro e w3 ⟨v3,rfl,hO3,hB3⟩))
    go_roundw
    case rel =>
     have hd:=HD.out
     have htl:=HTL.out
     refine⟨rd,_,cap2 - (2+M),X+1,m++T.typ X rt,by rw[hd,show r.length+1+1 - (2+M)=r.length - M by omega],by go_num,?_,by omega,by omega,by omega,by omega,hO3,hB.trans hB3,?_,?_⟩
     ·by_cases e:cap2=2+M
      ·intro hn;omega
      ·rw[if_neg e];exact hS3
     ·rw[List.length_append];omega
     ·rw[HE.out,HOP.out]
      cases T.opn (X+1) rd <;> simp
    case measure=>simp[lenOf];omega
open Go.RowKit
set_option maxHeartbeats 1600000 in
theorem takeKey_any (B T:Nat) (l:List UInt8) (w:World) (hR:Rdr B T l w) :
 Calls Tryz.prog 153 #[.pointer (some ⟨T,0,none⟩)] w fun e w'=>Got B T (D.key l) (fun x v w'=>KeyV w.heap.size x v w') w e w':=by
 have hTl:=hR.lt
 have hBw:=hR.base
 have hb0:=(Below.refl w.heap.size w).alloc (Nat.le_refl _) (.cells #[.int .u16 0,.int .u8 0,.int .u8 0,.slice none 0 0] 179)
 have R0:=hide (RowAt.new w 179 #[.int .u16 0,.int .u8 0,.int .u8 0,.slice none 0 0])
 have D0:=hide (hR.below hb0)
 have M0:=hide (Mv.of (T:=T) hb0)
 clear hR hb0
 go_enter Tryz.func153,Tryz.ntmps153
 go_wp2_with fail
 refine (rn16_any B T l _ (by exact D0.out)).mono ?_
 rintro e w1 ⟨⟨x1,r1,v1,ho1,rfl,hx1,hr1⟩ | ⟨ho1,rfl⟩,hm1⟩
 rotate_left
 ·unfold fell50
  go_wp2
  exact⟨rfl,Or.inr ⟨by simp[D.key,ho1],rfl⟩,M0.out.trans hm1⟩
 subst hx1
 have hrow1:=row_mv R0.out (by omega) hm1
 have k1:w1.cell? ⟨w.heap.size,0,none⟩=some (.int .u16 0):=hrow1.cell 0
 have f1:=hrow1.frozen 0
 have R1:Hid (RowAt (w1.setCell ⟨w.heap.size,0,none⟩ (.int .u16 (x1:Int))) w.heap.size 179 #[.int .u16 (x1:Int),.int .u8 0,.int .u8 0,.slice none 0 0]):=hrow1.set 0 _
 have D1:=hide (hr1.other w.heap.size 0 (.int .u16 (x1:Int)) (by omega) (by omega))
 have M1:=hide ((M0.out.trans hm1).setNew w.heap.size 0 (.int .u16 (x1:Int)) (Nat.le_refl _))
 clear hrow1 hr1 R0 D0 M0
 have H1:=hide ho1
 clear ho1
 go_wp2_with fail
 refine (rn8_any B T r1 _ (by exact D1.out)).mono ?_
 rintro e w2 ⟨⟨x2,r2,v2,ho2,rfl,hx2,hr2⟩ | ⟨ho2,rfl⟩,hm2⟩
 rotate_left
 ·unfold fell50
  go_wp2
  exact⟨rfl,Or.inr ⟨by simp[D.key,H1.out,ho2],rfl⟩,M1.out.trans hm2⟩
 subst hx2
 have hrow2:=row_mv R1.out (by omega) hm2
 have k2:w2.cell? ⟨w.heap.size,1,none⟩=some (.int .u8 0):=hrow2.cell 1
 have f2:=hrow2.frozen 1
 have R2:Hid (RowAt (w2.setCell ⟨w.heap.size,1,none⟩ (.int .u8 (x2:Int))) w.heap.size 179 #[.int .u16 (x1:Int),.int .u8 (x2:Int),.int .u8 0,.slice none 0 0]):=hrow2.set 1 _
 have D2:=hide (hr2.other w.heap.size 1 (.int .u8 (x2:Int)) (by omega) (by omega))
 have M2:=hide ((M1.out.trans hm2).setNew w.heap.size 1 (.int .u8 (x2:Int)) (Nat.le_refl _))
 clear hrow2 hr2 R1 D1 M1
 have H2:=hide ho2
 clear ho2
 go_wp2_with fail
 refine (rn8_any B T r2 _ (by exact D2.out)).mono ?_
 rintro e w3 ⟨⟨x3,r3,v3,ho3,rfl,hx3,hr3⟩ | ⟨ho3,rfl⟩,hm3⟩
 rotate_left
 ·unfold fell50
  go_wp2
  exact⟨rfl,Or.inr ⟨by simp[D.key,H1.out,H2.out,ho3],rfl⟩,M2.out.trans hm3⟩
 subst hx3
 have hrow3:=row_mv R2.out (by omega) hm3
 have k3:w3.cell? ⟨w.heap.size,2,none⟩=some (.int .u8 0):=hrow3.cell 2
 have f3:=hrow3.frozen 2
 have R3:Hid (RowAt (w3.setCell ⟨w.heap.size,2,none⟩ (.int .u8 (x3:Int))) w.heap.size 179 #[.int .u16 (x1:Int),.int .u8 (x2:Int),.int .u8 (x3:Int),.slice none 0 0]):=hrow3.set 2 _
 have D3:=hide (hr3.other w.heap.size 2 (.int .u8 (x3:Int)) (by omega) (by omega))
 have M3:=hide ((M2.out.trans hm3).setNew w.heap.size 2 (.int .u8 (x3:Int)) (Nat.le_refl _))
 clear hrow3 hr3 R2 D2 M2
 have H3:=hide ho3
 clear ho3
 go_wp2_with fail
 refine (rothers_any B T r3 _ (by exact D3.out)).mono ?_
 rintro e w4 ⟨v4,rfl,hx4,hr4,hm4⟩
 obtain⟨a4,c4,rfl,_,_,_,_⟩:=hx4.open
 have hrow4:=row_mv R3.out (by omega) hm4
 have k4:w4.cell? ⟨w.heap.size,3,none⟩=some (.slice none 0 0):=hrow4.cell 3
 have f4:=hrow4.frozen 3
 have g0:w4.cell? ⟨w.heap.size,0,none⟩=some (.int .u16 (x1:Int)):=hrow4.cell 0
 have e0:=hrow4.frozen 0
 have g1:w4.cell? ⟨w.heap.size,1,none⟩=some (.int .u8 (x2:Int)):=hrow4.cell 1
 have e1:=hrow4.frozen 1
 have g2:w4.cell? ⟨w.heap.size,2,none⟩=some (.int .u8 (x3:Int)):=hrow4.cell 2
 have e2:=hrow4.frozen 2
 have R4:Hid (RowAt (w4.setCell ⟨w.heap.size,3,none⟩ (.slice a4 r3.length c4)) w.heap.size 179 #[.int .u16 (x1:Int),.int .u8 (x2:Int),.int .u8 (x3:Int),.slice a4 r3.length c4]):=hrow4.set 3 _
 have D4:=hide (hr4.other w.heap.size 3 (.slice a4 r3.length c4) (by omega) (by omega))
 have M4:=hide ((M3.out.trans hm4).setNew w.heap.size 3 (.slice a4 r3.length c4) (Nat.le_refl _))
 have O4_4:=hide (own_set (OwnB.lower hx4 (M3.out.size)) hrow4 (by decide) 3 (.slice a4 r3.length c4))
 clear hrow4 hr4 R3 D3 M3 hx4
 have RF:RowAt (((((w4.setCell ⟨w.heap.size,3,none⟩ (.slice a4 r3.length c4)).setCell ⟨w.heap.size,0,none⟩ (.int .u16 (x1:Int))).setCell ⟨w.heap.size,1,none⟩ (.int .u8 (x2:Int))).setCell ⟨w.heap.size,2,none⟩ (.int .u8 (x3:Int))).setCell ⟨w.heap.size,3,none⟩ (.slice a4 r3.length c4)) w.heap.size 179 #[.int .u16 (x1:Int),.int .u8 (x2:Int),.int .u8 (x3:Int),.slice a4 r3.length c4]:=((((R4.out.same 0 rfl).same 1 rfl).same 2 rfl).same 3 rfl)
 have UF:Upd w.heap.size (w4.setCell ⟨w.heap.size,3,none⟩ (.slice a4 r3.length c4)) (((((w4.setCell ⟨w.heap.size,3,none⟩ (.slice a4 r3.length c4)).setCell ⟨w.heap.size,0,none⟩ (.int .u16 (x1:Int))).setCell ⟨w.heap.size,1,none⟩ (.int .u8 (x2:Int))).setCell ⟨w.heap.size,2,none⟩ (.int .u8 (x3:Int))).setCell ⟨w.heap.size,3,none⟩ (.slice a4 r3.length c4)):=(((((Upd.refl w.heap.size (w4.setCell ⟨w.heap.size,3,none⟩ (.slice a4 r3.length c4))).set 0 (.int .u16 (x1:Int))).set 1 (.int .u8 (x2:Int))).set 2 (.int .u8 (x3:Int))).set 3 (.slice a4 r3.length c4))
 go_wp2
 generalize (((((w4.setCell ⟨w.heap.size,3,none⟩ (.slice a4 r3.length c4)).setCell ⟨w.heap.size,0,none⟩ (.int .u16 (x1:Int))).setCell ⟨w.heap.size,1,none⟩ (.int .u8 (x2:Int))).setCell ⟨w.heap.size,2,none⟩ (.int .u8 (x3:Int))).setCell ⟨w.heap.size,3,none⟩ (.slice a4 r3.length c4))=F at RF UF ⊢
 have q0:F.cell? ⟨w.heap.size,0,none⟩=some (.int .u16 (x1:Int)):=RF.cell 0
 have q1:F.cell? ⟨w.heap.size,1,none⟩=some (.int .u8 (x2:Int)):=RF.cell 1
 have q2:F.cell? ⟨w.heap.size,2,none⟩=some (.int .u8 (x3:Int)):=RF.cell 2
 have q3:F.cell? ⟨w.heap.size,3,none⟩=some (.slice a4 r3.length c4):=RF.cell 3
 simp[bodyPost,results,Tryz.results153,go_sem,q0,q1,q2,q3]
 refine⟨Or.inl ⟨⟨x1,x2,x3,r3⟩,_,_,by simp[D.key,H1.out,H2.out,H3.out],rfl,⟨_,_,rfl,UF.own R4.out (by decide) O4_4.out⟩,UF.rdr D4.out (by omega) (by omega)⟩,UF.mv M4.out (Nat.le_refl _)⟩
set_option maxHeartbeats 1600000 in
theorem takeSoa_any (B T:Nat) (l:List UInt8) (w:World) (hR:Rdr B T l w) :
 Calls Tryz.prog 147 #[.pointer (some ⟨T,0,none⟩)] w fun e w'=>Got B T (D.soa l) (fun x v w'=>SoaV w.heap.size x v w') w e w':=by
 have hTl:=hR.lt
 have hBw:=hR.base
 have hb0:=(Below.refl w.heap.size w).alloc (Nat.le_refl _) (.cells #[.slice none 0 0,.slice none 0 0,.int .u32 0,.int .u32 0,.int .u32 0,.int .u32 0,.int .u32 0] 166)
 have R0:=hide (RowAt.new w 166 #[.slice none 0 0,.slice none 0 0,.int .u32 0,.int .u32 0,.int .u32 0,.int .u32 0,.int .u32 0])
 have D0:=hide (hR.below hb0)
 have M0:=hide (Mv.of (T:=T) hb0)
 clear hR hb0
 go_enter Tryz.func147,Tryz.ntmps147
 go_wp2_with fail
 refine (rname_any B T l _ (by exact D0.out)).mono ?_
 rintro e w1 ⟨⟨x1,r1,v1,ho1,rfl,hx1,hr1⟩ | ⟨ho1,rfl⟩,hm1⟩
 rotate_left
 ·unfold fell50
  go_wp2
  exact⟨rfl,Or.inr ⟨by simp[D.soa,ho1],rfl⟩,M0.out.trans hm1⟩
 obtain⟨a1,c1,rfl,_,_,_,_⟩:=hx1.open
 have hrow1:=row_mv R0.out (by omega) hm1
 have k1:w1.cell? ⟨w.heap.size,0,none⟩=some (.slice none 0 0):=hrow1.cell 0
 have f1:=hrow1.frozen 0
 have R1:Hid (RowAt (w1.setCell ⟨w.heap.size,0,none⟩ (.slice a1 x1.length c1)) w.heap.size 166 #[.slice a1 x1.length c1,.slice none 0 0,.int .u32 0,.int .u32 0,.int .u32 0,.int .u32 0,.int .u32 0]):=hrow1.set 0 _
 have D1:=hide (hr1.other w.heap.size 0 (.slice a1 x1.length c1) (by omega) (by omega))
 have M1:=hide ((M0.out.trans hm1).setNew w.heap.size 0 (.slice a1 x1.length c1) (Nat.le_refl _))
 have O1_1:=hide (own_set (OwnS.lower hx1 (M0.out.size)) hrow1 (by decide) 0 (.slice a1 x1.length c1))
 clear hrow1 hr1 R0 D0 M0 hx1
 have H1:=hide ho1
 clear ho1
 go_wp2_with fail
 refine (rname_any B T r1 _ (by exact D1.out)).mono ?_
 rintro e w2 ⟨⟨x2,r2,v2,ho2,rfl,hx2,hr2⟩ | ⟨ho2,rfl⟩,hm2⟩
 rotate_left
 ·unfold fell50
  go_wp2
  exact⟨rfl,Or.inr ⟨by simp[D.soa,H1.out,ho2],rfl⟩,M1.out.trans hm2⟩
 obtain⟨a2,c2,rfl,_,_,_,_⟩:=hx2.open
 have hrow2:=row_mv R1.out (by omega) hm2
 have k2:w2.cell? ⟨w.heap.size,1,none⟩=some (.slice none 0 0):=hrow2.cell 1
 have f2:=hrow2.frozen 1
 have R2:Hid (RowAt (w2.setCell ⟨w.heap.size,1,none⟩ (.slice a2 x2.length c2)) w.heap.size 166 #[.slice a1 x1.length c1,.slice a2 x2.length c2,.int .u32 0,.int .u32 0,.int .u32 0,.int .u32 0,.int .u32 0]):=hrow2.set 1 _
 have D2:=hide (hr2.other w.heap.size 1 (.slice a2 x2.length c2) (by omega) (by omega))
 have M2:=hide ((M1.out.trans hm2).setNew w.heap.size 1 (.slice a2 x2.length c2) (Nat.le_refl _))
 have O1_2:=hide (own_set (D1.out.ownS hm2 O1_1.out) hrow2 (by decide) 1 (.slice a2 x2.length c2))
 have O2_2:=hide (own_set (OwnS.lower hx2 (M1.out.size)) hrow2 (by decide) 1 (.slice a2 x2.length c2))
 clear hrow2 hr2 R1 D1 M1 O1_1 hx2
 have H2:=hide ho2
 clear ho2
 go_wp2_with fail
 refine (rn32_any B T r2 _ (by exact D2.out)).mono ?_
 rintro e w3 ⟨⟨x3,r3,v3,ho3,rfl,hx3,hr3⟩ | ⟨ho3,rfl⟩,hm3⟩
 rotate_left
 ·unfold fell50
  go_wp2
  exact⟨rfl,Or.inr ⟨by simp[D.soa,H1.out,H2.out,ho3],rfl⟩,M2.out.trans hm3⟩
 subst hx3
 have hrow3:=row_mv R2.out (by omega) hm3
 have k3:w3.cell? ⟨w.heap.size,2,none⟩=some (.int .u32 0):=hrow3.cell 2
 have f3:=hrow3.frozen 2
 have R3:Hid (RowAt (w3.setCell ⟨w.heap.size,2,none⟩ (.int .u32 (x3:Int))) w.heap.size 166 #[.slice a1 x1.length c1,.slice a2 x2.length c2,.int .u32 (x3:Int),.int .u32 0,.int .u32 0,.int .u32 0,.int .u32 0]):=hrow3.set 2 _
 have D3:=hide (hr3.other w.heap.size 2 (.int .u32 (x3:Int)) (by omega) (by omega))
 have M3:=hide ((M2.out.trans hm3).setNew w.heap.size 2 (.int .u32 (x3:Int)) (Nat.le_refl _))
 have O1_3:=hide (own_set (D2.out.ownS hm3 O1_2.out) hrow3 (by decide) 2 (.int .u32 (x3:Int)))
 have O2_3:=hide (own_set (D2.out.ownS hm3 O2_2.out) hrow3 (by decide) 2 (.int .u32 (x3:Int)))
 clear hrow3 hr3 R2 D2 M2 O1_2 O2_2
 have H3:=hide ho3
 clear ho3
 go_wp2_with fail
 refine (rn32_any B T r3 _ (by exact D3.out)).mono ?_
 rintro e w4 ⟨⟨x4,r4,v4,ho4,rfl,hx4,hr4⟩ | ⟨ho4,rfl⟩,hm4⟩
 rotate_left
 ·unfold fell50
  go_wp2
  exact⟨rfl,Or.inr ⟨by simp[D.soa,H1.out,H2.out,H3.out,ho4],rfl⟩,M3.out.trans hm4⟩
 subst hx4
 have hrow4:=row_mv R3.out (by omega) hm4
 have k4:w4.cell? ⟨w.heap.size,3,none⟩=some (.int .u32 0):=hrow4.cell 3
 have f4:=hrow4.frozen 3
 have R4:Hid (RowAt (w4.setCell ⟨w.heap.size,3,none⟩ (.int .u32 (x4:Int))) w.heap.size 166 #[.slice a1 x1.length c1,.slice a2 x2.length c2,.int .u32 (x3:Int),.int .u32 (x4:Int),.int .u32 0,.int .u32 0,.int .u32 0]):=hrow4.set 3 _
 have D4:=hide (hr4.other w.heap.size 3 (.int .u32 (x4:Int)) (by omega) (by omega))
 have M4:=hide ((M3.out.trans hm4).setNew w.heap.size 3 (.int .u32 (x4:Int)) (Nat.le_refl _))
 have O1_4:=hide (own_set (D3.out.ownS hm4 O1_3.out) hrow4 (by decide) 3 (.int .u32 (x4:Int)))
 have O2_4:=hide (own_set (D3.out.ownS hm4 O2_3.out) hrow4 (by decide) 3 (.int .u32 (x4:Int)))
 clear hrow4 hr4 R3 D3 M3 O1_3 O2_3
 have H4:=hide ho4
 clear ho4
 go_wp2_with fail
 refine (rn32_any B T r4 _ (by exact D4.out)).mono ?_
 rintro e w5 ⟨⟨x5,r5,v5,ho5,rfl,hx5,hr5⟩ | ⟨ho5,rfl⟩,hm5⟩
 rotate_left
 ·unfold fell50
  go_wp2
  exact⟨rfl,Or.inr ⟨by simp[D.soa,H1.out,H2.out,H3.out,H4.out,ho5],rfl⟩,M4.out.trans hm5⟩
 subst hx5
 have hrow5:=row_mv R4.out (by omega) hm5
 have k5:w5.cell? ⟨w.heap.size,4,none⟩=some (.int .u32 0):=hrow5.cell 4
 have f5:=hrow5.frozen 4
 have R5:Hid (RowAt (w5.setCell ⟨w.heap.size,4,none⟩ (.int .u32 (x5:Int))) w.heap.size 166 #[.slice a1 x1.length c1,.slice a2 x2.length c2,.int .u32 (x3:Int),.int .u32 (x4:Int),.int .u32 (x5:Int),.int .u32 0,.int .u32 0]):=hrow5.set 4 _
 have D5:=hide (hr5.other w.heap.size 4 (.int .u32 (x5:Int)) (by omega) (by omega))
 have M5:=hide ((M4.out.trans hm5).setNew w.heap.size 4 (.int .u32 (x5:Int)) (Nat.le_refl _))
 have O1_5:=hide (own_set (D4.out.ownS hm5 O1_4.out) hrow5 (by decide) 4 (.int .u32 (x5:Int)))
 have O2_5:=hide (own_set (D4.out.ownS hm5 O2_4.out) hrow5 (by decide) 4 (.int .u32 (x5:Int)))
 clear hrow5 hr5 R4 D4 M4 O1_4 O2_4
 have H5:=hide ho5
 clear ho5
 go_wp2_with fail
 refine (rn32_any B T r5 _ (by exact D5.out)).mono ?_
 rintro e w6 ⟨⟨x6,r6,v6,ho6,rfl,hx6,hr6⟩ | ⟨ho6,rfl⟩,hm6⟩
 rotate_left
 ·unfold fell50
  go_wp2
  exact⟨rfl,Or.inr ⟨by simp[D.soa,H1.out,H2.out,H3.out,H4.out,H5.out,ho6],rfl⟩,M5.out.trans hm6⟩
 subst hx6
 have hrow6:=row_mv R5.out (by omega) hm6
 have k6:w6.cell? ⟨w.heap.size,5,none⟩=some (.int .u32 0):=hrow6.cell 5
 have f6:=hrow6.frozen 5
 have R6:Hid (RowAt (w6.setCell ⟨w.heap.size,5,none⟩ (.int .u32 (x6:Int))) w.heap.size 166 #[.slice a1 x1.length c1,.slice a2 x2.length c2,.int .u32 (x3:Int),.int .u32 (x4:Int),.int .u32 (x5:Int),.int .u32 (x6:Int),.int .u32 0]):=hrow6.set 5 _
 have D6:=hide (hr6.other w.heap.size 5 (.int .u32 (x6:Int)) (by omega) (by omega))
 have M6:=hide ((M5.out.trans hm6).setNew w.heap.size 5 (.int .u32 (x6:Int)) (Nat.le_refl _))
 have O1_6:=hide (own_set (D5.out.ownS hm6 O1_5.out) hrow6 (by decide) 5 (.int .u32 (x6:Int)))
 have O2_6:=hide (own_set (D5.out.ownS hm6 O2_5.out) hrow6 (by decide) 5 (.int .u32 (x6:Int)))
 clear hrow6 hr6 R5 D5 M5 O1_5 O2_5
 have H6:=hide ho6
 clear ho6
 go_wp2_with fail
 refine (rn32_any B T r6 _ (by exact D6.out)).mono ?_
 rintro e w7 ⟨⟨x7,r7,v7,ho7,rfl,hx7,hr7⟩ | ⟨ho7,rfl⟩,hm7⟩
 rotate_left
 ·unfold fell50
  go_wp2
  exact⟨rfl,Or.inr ⟨by simp[D.soa,H1.out,H2.out,H3.out,H4.out,H5.out,H6.out,ho7],rfl⟩,M6.out.trans hm7⟩
 subst hx7
 have hrow7:=row_mv R6.out (by omega) hm7
 have k7:w7.cell? ⟨w.heap.size,6,none⟩=some (.int .u32 0):=hrow7.cell 6
 have f7:=hrow7.frozen 6
 have g0:w7.cell? ⟨w.heap.size,0,none⟩=some (.slice a1 x1.length c1):=hrow7.cell 0
 have e0:=hrow7.frozen 0
 have g1:w7.cell? ⟨w.heap.size,1,none⟩=some (.slice a2 x2.length c2):=hrow7.cell 1
 have e1:=hrow7.frozen 1
 have g2:w7.cell? ⟨w.heap.size,2,none⟩=some (.int .u32 (x3:Int)):=hrow7.cell 2
 have e2:=hrow7.frozen 2
 have g3:w7.cell? ⟨w.heap.size,3,none⟩=some (.int .u32 (x4:Int)):=hrow7.cell 3
 have e3:=hrow7.frozen 3
 have g4:w7.cell? ⟨w.heap.size,4,none⟩=some (.int .u32 (x5:Int)):=hrow7.cell 4
 have e4:=hrow7.frozen 4
 have g5:w7.cell? ⟨w.heap.size,5,none⟩=some (.int .u32 (x6:Int)):=hrow7.cell 5
 have e5:=hrow7.frozen 5
 have R7:Hid (RowAt (w7.setCell ⟨w.heap.size,6,none⟩ (.int .u32 (x7:Int))) w.heap.size 166 #[.slice a1 x1.length c1,.slice a2 x2.length c2,.int .u32 (x3:Int),.int .u32 (x4:Int),.int .u32 (x5:Int),.int .u32 (x6:Int),.int .u32 (x7:Int)]):=hrow7.set 6 _
 have D7:=hide (hr7.other w.heap.size 6 (.int .u32 (x7:Int)) (by omega) (by omega))
 have M7:=hide ((M6.out.trans hm7).setNew w.heap.size 6 (.int .u32 (x7:Int)) (Nat.le_refl _))
 have O1_7:=hide (own_set (D6.out.ownS hm7 O1_6.out) hrow7 (by decide) 6 (.int .u32 (x7:Int)))
 have O2_7:=hide (own_set (D6.out.ownS hm7 O2_6.out) hrow7 (by decide) 6 (.int .u32 (x7:Int)))
 clear hrow7 hr7 R6 D6 M6 O1_6 O2_6
 have H7:=hide ho7
 clear ho7
 have RF:RowAt ((((((((w7.setCell ⟨w.heap.size,6,none⟩ (.int .u32 (x7:Int))).setCell ⟨w.heap.size,0,none⟩ (.slice a1 x1.length c1)).setCell ⟨w.heap.size,1,none⟩ (.slice a2 x2.length c2)).setCell ⟨w.heap.size,2,none⟩ (.int .u32 (x3:Int))).setCell ⟨w.heap.size,3,none⟩ (.int .u32 (x4:Int))).setCell ⟨w.heap.size,4,none⟩ (.int .u32 (x5:Int))).setCell ⟨w.heap.size,5,none⟩ (.int .u32 (x6:Int))).setCell ⟨w.heap.size,6,none⟩ (.int .u32 (x7:Int))) w.heap.size 166 #[.slice a1 x1.length c1,.slice a2 x2.length c2,.int .u32 (x3:Int),.int .u32 (x4:Int),.int .u32 (x5:Int),.int .u32 (x6:Int),.int .u32 (x7:Int)]:=(((((((R7.out.same 0 rfl).same 1 rfl).same 2 rfl).same 3 rfl).same 4 rfl).same 5 rfl).same 6 rfl)
 have UF:Upd w.heap.size (w7.setCell ⟨w.heap.size,6,none⟩ (.int .u32 (x7:Int))) ((((((((w7.setCell ⟨w.heap.size,6,none⟩ (.int .u32 (x7:Int))).setCell ⟨w.heap.size,0,none⟩ (.slice a1 x1.length c1)).setCell ⟨w.heap.size,1,none⟩ (.slice a2 x2.length c2)).setCell ⟨w.heap.size,2,none⟩ (.int .u32 (x3:Int))).setCell ⟨w.heap.size,3,none⟩ (.int .u32 (x4:Int))).setCell ⟨w.heap.size,4,none⟩ (.int .u32 (x5:Int))).setCell ⟨w.heap.size,5,none⟩ (.int .u32 (x6:Int))).setCell ⟨w.heap.size,6,none⟩ (.int .u32 (x7:Int))):=((((((((Upd.refl w.heap.size (w7.setCell ⟨w.heap.size,6,none⟩ (.int .u32 (x7:Int)))).set 0 (.slice a1 x1.length c1)).set 1 (.slice a2 x2.length c2)).set 2 (.int .u32 (x3:Int))).set 3 (.int .u32 (x4:Int))).set 4 (.int .u32 (x5:Int))).set 5 (.int .u32 (x6:Int))).set 6 (.int .u32 (x7:Int)))
 go_wp2
 generalize ((((((((w7.setCell ⟨w.heap.size,6,none⟩ (.int .u32 (x7:Int))).setCell ⟨w.heap.size,0,none⟩ (.slice a1 x1.length c1)).setCell ⟨w.heap.size,1,none⟩ (.slice a2 x2.length c2)).setCell ⟨w.heap.size,2,none⟩ (.int .u32 (x3:Int))).setCell ⟨w.heap.size,3,none⟩ (.int .u32 (x4:Int))).setCell ⟨w.heap.size,4,none⟩ (.int .u32 (x5:Int))).setCell ⟨w.heap.size,5,none⟩ (.int .u32 (x6:Int))).setCell ⟨w.heap.size,6,none⟩ (.int .u32 (x7:Int)))=F at RF UF ⊢
 have q0:F.cell? ⟨w.heap.size,0,none⟩=some (.slice a1 x1.length c1):=RF.cell 0
 have q1:F.cell? ⟨w.heap.size,1,none⟩=some (.slice a2 x2.length c2):=RF.cell 1
 have q2:F.cell? ⟨w.heap.size,2,none⟩=some (.int .u32 (x3:Int)):=RF.cell 2
 have q3:F.cell? ⟨w.heap.size,3,none⟩=some (.int .u32 (x4:Int)):=RF.cell 3
 have q4:F.cell? ⟨w.heap.size,4,none⟩=some (.int .u32 (x5:Int)):=RF.cell 4
 have q5:F.cell? ⟨w.heap.size,5,none⟩=some (.int .u32 (x6:Int)):=RF.cell 5
 have q6:F.cell? ⟨w.heap.size,6,none⟩=some (.int .u32 (x7:Int)):=RF.cell 6
 simp[bodyPost,results,Tryz.results147,go_sem,q0,q1,q2,q3,q4,q5,q6]
 refine⟨Or.inl ⟨⟨x1,x2,x3,x4,x5,x6,x7⟩,_,_,by simp[D.soa,H1.out,H2.out,H3.out,H4.out,H5.out,H6.out,H7.out],rfl,⟨_,_,_,_,rfl,UF.own R7.out (by decide) O1_7.out,UF.own R7.out (by decide) O2_7.out⟩,UF.rdr D7.out (by omega) (by omega)⟩,UF.mv M7.out (Nat.le_refl _)⟩
open Go.RowKit
set_option maxHeartbeats 1600000 in
theorem takeSig_any (B T:Nat) (l:List UInt8) (w:World) (hR:Rdr B T l w) :
 Calls Tryz.prog 151 #[.pointer (some ⟨T,0,none⟩)] w fun e w'=>Got B T (D.sig l) (fun x v w'=>SigV w.heap.size x v w') w e w':=by
 have hTl:=hR.lt
 have hBw:=hR.base
 have hb0:=(Below.refl w.heap.size w).alloc (Nat.le_refl _) (.cells #[.int .u16 0,.int .u8 0,.int .u8 0,.int .u32 0,.int .u32 0,.int .u32 0,.int .u16 0,.slice none 0 0,.slice none 0 0] 175)
 have R0:=hide (RowAt.new w 175 #[.int .u16 0,.int .u8 0,.int .u8 0,.int .u32 0,.int .u32 0,.int .u32 0,.int .u16 0,.slice none 0 0,.slice none 0 0])
 have D0:=hide (hR.below hb0)
 have M0:=hide (Mv.of (T:=T) hb0)
 clear hR hb0
 go_enter Tryz.func151,Tryz.ntmps151
 go_wp2_with fail
 refine (rn16_any B T l _ (by exact D0.out)).mono ?_
 rintro e w1 ⟨⟨x1,r1,v1,ho1,rfl,hx1,hr1⟩ | ⟨ho1,rfl⟩,hm1⟩
 rotate_left
 ·unfold fell50
  go_wp2
  exact⟨rfl,Or.inr ⟨by simp[D.sig,ho1],rfl⟩,M0.out.trans hm1⟩
 subst hx1
 have hrow1:=row_mv R0.out (by omega) hm1
 have k1:w1.cell? ⟨w.heap.size,0,none⟩=some (.int .u16 0):=hrow1.cell 0
 have f1:=hrow1.frozen 0
 have R1:Hid (RowAt (w1.setCell ⟨w.heap.size,0,none⟩ (.int .u16 (x1:Int))) w.heap.size 175 #[.int .u16 (x1:Int),.int .u8 0,.int .u8 0,.int .u32 0,.int .u32 0,.int .u32 0,.int .u16 0,.slice none 0 0,.slice none 0 0]):=hrow1.set 0 _
 have D1:=hide (hr1.other w.heap.size 0 (.int .u16 (x1:Int)) (by omega) (by omega))
 have M1:=hide ((M0.out.trans hm1).setNew w.heap.size 0 (.int .u16 (x1:Int)) (Nat.le_refl _))
 clear hrow1 hr1 R0 D0 M0
 have H1:=hide ho1
 clear ho1
 go_wp2_with fail
 refine (rn8_any B T r1 _ (by exact D1.out)).mono ?_
 rintro e w2 ⟨⟨x2,r2,v2,ho2,rfl,hx2,hr2⟩ | ⟨ho2,rfl⟩,hm2⟩
 rotate_left
 ·unfold fell50
  go_wp2
  exact⟨rfl,Or.inr ⟨by simp[D.sig,H1.out,ho2],rfl⟩,M1.out.trans hm2⟩
 subst hx2
 have hrow2:=row_mv R1.out (by omega) hm2
 have k2:w2.cell? ⟨w.heap.size,1,none⟩=some (.int .u8 0):=hrow2.cell 1
 have f2:=hrow2.frozen 1
 have R2:Hid (RowAt (w2.setCell ⟨w.heap.size,1,none⟩ (.int .u8 (x2:Int))) w.heap.size 175 #[.int .u16 (x1:Int),.int .u8 (x2:Int),.int .u8 0,.int .u32 0,.int .u32 0,.int .u32 0,.int .u16 0,.slice none 0 0,.slice none 0 0]):=hrow2.set 1 _
 have D2:=hide (hr2.other w.heap.size 1 (.int .u8 (x2:Int)) (by omega) (by omega))
 have M2:=hide ((M1.out.trans hm2).setNew w.heap.size 1 (.int .u8 (x2:Int)) (Nat.le_refl _))
 clear hrow2 hr2 R1 D1 M1
 have H2:=hide ho2
 clear ho2
 go_wp2_with fail
 refine (rn8_any B T r2 _ (by exact D2.out)).mono ?_
 rintro e w3 ⟨⟨x3,r3,v3,ho3,rfl,hx3,hr3⟩ | ⟨ho3,rfl⟩,hm3⟩
 rotate_left
 ·unfold fell50
  go_wp2
  exact⟨rfl,Or.inr ⟨by simp[D.sig,H1.out,H2.out,ho3],rfl⟩,M2.out.trans hm3⟩
 subst hx3
 have hrow3:=row_mv R2.out (by omega) hm3
 have k3:w3.cell? ⟨w.heap.size,2,none⟩=some (.int .u8 0):=hrow3.cell 2
 have f3:=hrow3.frozen 2
 have R3:Hid (RowAt (w3.setCell ⟨w.heap.size,2,none⟩ (.int .u8 (x3:Int))) w.heap.size 175 #[.int .u16 (x1:Int),.int .u8 (x2:Int),.int .u8 (x3:Int),.int .u32 0,.int .u32 0,.int .u32 0,.int .u16 0,.slice none 0 0,.slice none 0 0]):=hrow3.set 2 _
 have D3:=hide (hr3.other w.heap.size 2 (.int .u8 (x3:Int)) (by omega) (by omega))
 have M3:=hide ((M2.out.trans hm3).setNew w.heap.size 2 (.int .u8 (x3:Int)) (Nat.le_refl _))
 clear hrow3 hr3 R2 D2 M2
 have H3:=hide ho3
 clear ho3
 go_wp2_with fail
 refine (rn32_any B T r3 _ (by exact D3.out)).mono ?_
 rintro e w4 ⟨⟨x4,r4,v4,ho4,rfl,hx4,hr4⟩ | ⟨ho4,rfl⟩,hm4⟩
 rotate_left
 ·unfold fell50
  go_wp2
  exact⟨rfl,Or.inr ⟨by simp[D.sig,H1.out,H2.out,H3.out,ho4],rfl⟩,M3.out.trans hm4⟩
 subst hx4
 have hrow4:=row_mv R3.out (by omega) hm4
 have k4:w4.cell? ⟨w.heap.size,3,none⟩=some (.int .u32 0):=hrow4.cell 3
 have f4:=hrow4.frozen 3
 have R4:Hid (RowAt (w4.setCell ⟨w.heap.size,3,none⟩ (.int .u32 (x4:Int))) w.heap.size 175 #[.int .u16 (x1:Int),.int .u8 (x2:Int),.int .u8 (x3:Int),.int .u32 (x4:Int),.int .u32 0,.int .u32 0,.int .u16 0,.slice none 0 0,.slice none 0 0]):=hrow4.set 3 _
 have D4:=hide (hr4.other w.heap.size 3 (.int .u32 (x4:Int)) (by omega) (by omega))
 have M4:=hide ((M3.out.trans hm4).setNew w.heap.size 3 (.int .u32 (x4:Int)) (Nat.le_refl _))
 clear hrow4 hr4 R3 D3 M3
 have H4:=hide ho4
 clear ho4
 go_wp2_with fail
 refine (rn32_any B T r4 _ (by exact D4.out)).mono ?_
 rintro e w5 ⟨⟨x5,r5,v5,ho5,rfl,hx5,hr5⟩ | ⟨ho5,rfl⟩,hm5⟩
 rotate_left
 ·unfold fell50
  go_wp2
  exact⟨rfl,Or.inr ⟨by simp[D.sig,H1.out,H2.out,H3.out,H4.out,ho5],rfl⟩,M4.out.trans hm5⟩
 subst hx5
 have hrow5:=row_mv R4.out (by omega) hm5
 have k5:w5.cell? ⟨w.heap.size,4,none⟩=some (.int .u32 0):=hrow5.cell 4
 have f5:=hrow5.frozen 4
 have R5:Hid (RowAt (w5.setCell ⟨w.heap.size,4,none⟩ (.int .u32 (x5:Int))) w.heap.size 175 #[.int .u16 (x1:Int),.int .u8 (x2:Int),.int .u8 (x3:Int),.int .u32 (x4:Int),.int .u32 (x5:Int),.int .u32 0,.int .u16 0,.slice none 0 0,.slice none 0 0]):=hrow5.set 4 _
 have D5:=hide (hr5.other w.heap.size 4 (.int .u32 (x5:Int)) (by omega) (by omega))
 have M5:=hide ((M4.out.trans hm5).setNew w.heap.size 4 (.int .u32 (x5:Int)) (Nat.le_refl _))
 clear hrow5 hr5 R4 D4 M4
 have H5:=hide ho5
 clear ho5
 go_wp2_with fail
 refine (rn32_any B T r5 _ (by exact D5.out)).mono ?_
 rintro e w6 ⟨⟨x6,r6,v6,ho6,rfl,hx6,hr6⟩ | ⟨ho6,rfl⟩,hm6⟩
 rotate_left
 ·unfold fell50
  go_wp2
  exact⟨rfl,Or.inr ⟨by simp[D.sig,H1.out,H2.out,H3.out,H4.out,H5.out,ho6],rfl⟩,M5.out.trans hm6⟩
 subst hx6
 have hrow6:=row_mv R5.out (by omega) hm6
 have k6:w6.cell? ⟨w.heap.size,5,none⟩=some (.int .u32 0):=hrow6.cell 5
 have f6:=hrow6.frozen 5
 have R6:Hid (RowAt (w6.setCell ⟨w.heap.size,5,none⟩ (.int .u32 (x6:Int))) w.heap.size 175 #[.int .u16 (x1:Int),.int .u8 (x2:Int),.int .u8 (x3:Int),.int .u32 (x4:Int),.int .u32 (x5:Int),.int .u32 (x6:Int),.int .u16 0,.slice none 0 0,.slice none 0 0]):=hrow6.set 5 _
 have D6:=hide (hr6.other w.heap.size 5 (.int .u32 (x6:Int)) (by omega) (by omega))
 have M6:=hide ((M5.out.trans hm6).setNew w.heap.size 5 (.int .u32 (x6:Int)) (Nat.le_refl _))
 clear hrow6 hr6 R5 D5 M5
 have H6:=hide ho6
 clear ho6
 go_wp2_with fail
 refine (rn16_any B T r6 _ (by exact D6.out)).mono ?_
 rintro e w7 ⟨⟨x7,r7,v7,ho7,rfl,hx7,hr7⟩ | ⟨ho7,rfl⟩,hm7⟩
 rotate_left
 ·unfold fell50
  go_wp2
  exact⟨rfl,Or.inr ⟨by simp[D.sig,H1.out,H2.out,H3.out,H4.out,H5.out,H6.out,ho7],rfl⟩,M6.out.trans hm7⟩
 subst hx7
 have hrow7:=row_mv R6.out (by omega) hm7
 have k7:w7.cell? ⟨w.heap.size,6,none⟩=some (.int .u16 0):=hrow7.cell 6
 have f7:=hrow7.frozen 6
 have R7:Hid (RowAt (w7.setCell ⟨w.heap.size,6,none⟩ (.int .u16 (x7:Int))) w.heap.size 175 #[.int .u16 (x1:Int),.int .u8 (x2:Int),.int .u8 (x3:Int),.int .u32 (x4:Int),.int .u32 (x5:Int),.int .u32 (x6:Int),.int .u16 (x7:Int),.slice none 0 0,.slice none 0 0]):=hrow7.set 6 _
 have D7:=hide (hr7.other w.heap.size 6 (.int .u16 (x7:Int)) (by omega) (by omega))
 have M7:=hide ((M6.out.trans hm7).setNew w.heap.size 6 (.int .u16 (x7:Int)) (Nat.le_refl _))
 clear hrow7 hr7 R6 D6 M6
 have H7:=hide ho7
 clear ho7
 go_wp2_with fail
 refine (rname_any B T r7 _ (by exact D7.out)).mono ?_
 rintro e w8 ⟨⟨x8,r8,v8,ho8,rfl,hx8,hr8⟩ | ⟨ho8,rfl⟩,hm8⟩
 rotate_left
 ·unfold fell50
  go_wp2
  exact⟨rfl,Or.inr ⟨by simp[D.sig,H1.out,H2.out,H3.out,H4.out,H5.out,H6.out,H7.out,ho8],rfl⟩,M7.out.trans hm8⟩
 obtain⟨a8,c8,rfl,_,_,_,_⟩:=hx8.open
 have hrow8:=row_mv R7.out (by omega) hm8
 have k8:w8.cell? ⟨w.heap.size,7,none⟩=some (.slice none 0 0):=hrow8.cell 7
 have f8:=hrow8.frozen 7
 have R8:Hid (RowAt (w8.setCell ⟨w.heap.size,7,none⟩ (.slice a8 x8.length c8)) w.heap.size 175 #[.int .u16 (x1:Int),.int .u8 (x2:Int),.int .u8 (x3:Int),.int .u32 (x4:Int),.int .u32 (x5:Int),.int .u32 (x6:Int),.int .u16 (x7:Int),.slice a8 x8.length c8,.slice none 0 0]):=hrow8.set 7 _
 have D8:=hide (hr8.other w.heap.size 7 (.slice a8 x8.length c8) (by omega) (by omega))
 have M8:=hide ((M7.out.trans hm8).setNew w.heap.size 7 (.slice a8 x8.length c8) (Nat.le_refl _))
 have O8_8:=hide (own_set (OwnS.lower hx8 (M7.out.size)) hrow8 (by decide) 7 (.slice a8 x8.length c8))
 clear hrow8 hr8 R7 D7 M7 hx8
 have H8:=hide ho8
 clear ho8
 go_wp2_with fail
 refine (rothers_any B T r8 _ (by exact D8.out)).mono ?_
 rintro e w9 ⟨v9,rfl,hx9,hr9,hm9⟩
 obtain⟨a9,c9,rfl,_,_,_,_⟩:=hx9.open
 have hrow9:=row_mv R8.out (by omega) hm9
 have k9:w9.cell? ⟨w.heap.size,8,none⟩=some (.slice none 0 0):=hrow9.cell 8
 have f9:=hrow9.frozen 8
 have g0:w9.cell? ⟨w.heap.size,0,none⟩=some (.int .u16 (x1:Int)):=hrow9.cell 0
 have e0:=hrow9.frozen 0
 have g1:w9.cell? ⟨w.heap.size,1,none⟩=some (.int .u8 (x2:Int)):=hrow9.cell 1
 have e1:=hrow9.frozen 1
 have g2:w9.cell? ⟨w.heap.size,2,none⟩=some (.int .u8 (x3:Int)):=hrow9.cell 2
 have e2:=hrow9.frozen 2
 have g3:w9.cell? ⟨w.heap.size,3,none⟩=some (.int .u32 (x4:Int)):=hrow9.cell 3
 have e3:=hrow9.frozen 3
 have g4:w9.cell? ⟨w.heap.size,4,none⟩=some (.int .u32 (x5:Int)):=hrow9.cell 4
 have e4:=hrow9.frozen 4
 have g5:w9.cell? ⟨w.heap.size,5,none⟩=some (.int .u32 (x6:Int)):=hrow9.cell 5
 have e5:=hrow9.frozen 5
 have g6:w9.cell? ⟨w.heap.size,6,none⟩=some (.int .u16 (x7:Int)):=hrow9.cell 6
 have e6:=hrow9.frozen 6
 have g7:w9.cell? ⟨w.heap.size,7,none⟩=some (.slice a8 x8.length c8):=hrow9.cell 7
 have e7:=hrow9.frozen 7
 have R9:Hid (RowAt (w9.setCell ⟨w.heap.size,8,none⟩ (.slice a9 r8.length c9)) w.heap.size 175 #[.int .u16 (x1:Int),.int .u8 (x2:Int),.int .u8 (x3:Int),.int .u32 (x4:Int),.int .u32 (x5:Int),.int .u32 (x6:Int),.int .u16 (x7:Int),.slice a8 x8.length c8,.slice a9 r8.length c9]):=hrow9.set 8 _
 have D9:=hide (hr9.other w.heap.size 8 (.slice a9 r8.length c9) (by omega) (by omega))
 have M9:=hide ((M8.out.trans hm9).setNew w.heap.size 8 (.slice a9 r8.length c9) (Nat.le_refl _))
 have O8_9:=hide (own_set (D8.out.ownS hm9 O8_8.out) hrow9 (by decide) 8 (.slice a9 r8.length c9))
 have O9_9:=hide (own_set (OwnB.lower hx9 (M8.out.size)) hrow9 (by decide) 8 (.slice a9 r8.length c9))
 clear hrow9 hr9 R8 D8 M8 O8_8 hx9
 have RF:RowAt ((((((((((w9.setCell ⟨w.heap.size,8,none⟩ (.slice a9 r8.length c9)).setCell ⟨w.heap.size,0,none⟩ (.int .u16 (x1:Int))).setCell ⟨w.heap.size,1,none⟩ (.int .u8 (x2:Int))).setCell ⟨w.heap.size,2,none⟩ (.int .u8 (x3:Int))).setCell ⟨w.heap.size,3,none⟩ (.int .u32 (x4:Int))).setCell ⟨w.heap.size,4,none⟩ (.int .u32 (x5:Int))).setCell ⟨w.heap.size,5,none⟩ (.int .u32 (x6:Int))).setCell ⟨w.heap.size,6,none⟩ (.int .u16 (x7:Int))).setCell ⟨w.heap.size,7,none⟩ (.slice a8 x8.length c8)).setCell ⟨w.heap.size,8,none⟩ (.slice a9 r8.length c9)) w.heap.size 175 #[.int .u16 (x1:Int),.int .u8 (x2:Int),.int .u8 (x3:Int),.int .u32 (x4:Int),.int .u32 (x5:Int),.int .u32 (x6:Int),.int .u16 (x7:Int),.slice a8 x8.length c8,.slice a9 r8.length c9]:=(((((((((R9.out.same 0 rfl).same 1 rfl).same 2 rfl).same 3 rfl).same 4 rfl).same 5 rfl).same 6 rfl).same 7 rfl).same 8 rfl)
 have UF:Upd w.heap.size (w9.setCell ⟨w.heap.size,8,none⟩ (.slice a9 r8.length c9)) ((((((((((w9.setCell ⟨w.heap.size,8,none⟩ (.slice a9 r8.length c9)).setCell ⟨w.heap.size,0,none⟩ (.int .u16 (x1:Int))).setCell ⟨w.heap.size,1,none⟩ (.int .u8 (x2:Int))).setCell ⟨w.heap.size,2,none⟩ (.int .u8 (x3:Int))).setCell ⟨w.heap.size,3,none⟩ (.int .u32 (x4:Int))).setCell ⟨w.heap.size,4,none⟩ (.int .u32 (x5:Int))).setCell ⟨w.heap.size,5,none⟩ (.int .u32 (x6:Int))).setCell ⟨w.heap.size,6,none⟩ (.int .u16 (x7:Int))).setCell ⟨w.heap.size,7,none⟩ (.slice a8 x8.length c8)).setCell ⟨w.heap.size,8,none⟩ (.slice a9 r8.length c9)):=((((((((((Upd.refl w.heap.size (w9.setCell ⟨w.heap.size,8,none⟩ (.slice a9 r8.length c9))).set 0 (.int .u16 (x1:Int))).set 1 (.int .u8 (x2:Int))).set 2 (.int .u8 (x3:Int))).set 3 (.int .u32 (x4:Int))).set 4 (.int .u32 (x5:Int))).set 5 (.int .u32 (x6:Int))).set 6 (.int .u16 (x7:Int))).set 7 (.slice a8 x8.length c8)).set 8 (.slice a9 r8.length c9))
 go_wp2
 generalize ((((((((((w9.setCell ⟨w.heap.size,8,none⟩ (.slice a9 r8.length c9)).setCell ⟨w.heap.size,0,none⟩ (.int .u16 (x1:Int))).setCell ⟨w.heap.size,1,none⟩ (.int .u8 (x2:Int))).setCell ⟨w.heap.size,2,none⟩ (.int .u8 (x3:Int))).setCell ⟨w.heap.size,3,none⟩ (.int .u32 (x4:Int))).setCell ⟨w.heap.size,4,none⟩ (.int .u32 (x5:Int))).setCell ⟨w.heap.size,5,none⟩ (.int .u32 (x6:Int))).setCell ⟨w.heap.size,6,none⟩ (.int .u16 (x7:Int))).setCell ⟨w.heap.size,7,none⟩ (.slice a8 x8.length c8)).setCell ⟨w.heap.size,8,none⟩ (.slice a9 r8.length c9))=F at RF UF ⊢
 have q0:F.cell? ⟨w.heap.size,0,none⟩=some (.int .u16 (x1:Int)):=RF.cell 0
 have q1:F.cell? ⟨w.heap.size,1,none⟩=some (.int .u8 (x2:Int)):=RF.cell 1
 have q2:F.cell? ⟨w.heap.size,2,none⟩=some (.int .u8 (x3:Int)):=RF.cell 2
 have q3:F.cell? ⟨w.heap.size,3,none⟩=some (.int .u32 (x4:Int)):=RF.cell 3
 have q4:F.cell? ⟨w.heap.size,4,none⟩=some (.int .u32 (x5:Int)):=RF.cell 4
 have q5:F.cell? ⟨w.heap.size,5,none⟩=some (.int .u32 (x6:Int)):=RF.cell 5
 have q6:F.cell? ⟨w.heap.size,6,none⟩=some (.int .u16 (x7:Int)):=RF.cell 6
 have q7:F.cell? ⟨w.heap.size,7,none⟩=some (.slice a8 x8.length c8):=RF.cell 7
 have q8:F.cell? ⟨w.heap.size,8,none⟩=some (.slice a9 r8.length c9):=RF.cell 8
 simp[bodyPost,results,Tryz.results151,go_sem,q0,q1,q2,q3,q4,q5,q6,q7,q8]
 refine⟨Or.inl ⟨⟨x1,x2,x3,x4,x5,x6,x7,x8,r8⟩,_,_,by simp[D.sig,H1.out,H2.out,H3.out,H4.out,H5.out,H6.out,H7.out,H8.out],rfl,⟨_,_,_,_,rfl,UF.own R9.out (by decide) O8_9.out,UF.own R9.out (by decide) O9_9.out⟩,UF.rdr D9.out (by omega) (by omega)⟩,UF.mv M9.out (Nat.le_refl _)⟩
open Go.RowKit
set_option maxHeartbeats 1600000 in
theorem takeChain_any (B T:Nat) (l:List UInt8) (w:World) (hR:Rdr B T l w) :
 Calls Tryz.prog 155 #[.pointer (some ⟨T,0,none⟩)] w fun e w'=>Got B T (D.chain l) (fun x v w'=>ChainV w.heap.size x v w') w e w':=by
 have hTl:=hR.lt
 have hBw:=hR.base
 have hb0:=(Below.refl w.heap.size w).alloc (Nat.le_refl _) (.cells #[.int .u8 0,.int .u8 0,.int .u16 0,.slice none 0 0,.slice none 0 0,.slice none 0 0] 183)
 have R0:=hide (RowAt.new w 183 #[.int .u8 0,.int .u8 0,.int .u16 0,.slice none 0 0,.slice none 0 0,.slice none 0 0])
 have D0:=hide (hR.below hb0)
 have M0:=hide (Mv.of (T:=T) hb0)
 clear hR hb0
 go_enter Tryz.func155,Tryz.ntmps155
 go_wp2_with fail
 refine (rn8_any B T l _ (by exact D0.out)).mono ?_
 rintro e w1 ⟨⟨x1,r1,v1,ho1,rfl,hx1,hr1⟩ | ⟨ho1,rfl⟩,hm1⟩
 rotate_left
 ·unfold fell50
  go_wp2
  exact⟨rfl,Or.inr ⟨by simp[D.chain,ho1],rfl⟩,M0.out.trans hm1⟩
 subst hx1
 have hrow1:=row_mv R0.out (by omega) hm1
 have k1:w1.cell? ⟨w.heap.size,0,none⟩=some (.int .u8 0):=hrow1.cell 0
 have f1:=hrow1.frozen 0
 have R1:Hid (RowAt (w1.setCell ⟨w.heap.size,0,none⟩ (.int .u8 (x1:Int))) w.heap.size 183 #[.int .u8 (x1:Int),.int .u8 0,.int .u16 0,.slice none 0 0,.slice none 0 0,.slice none 0 0]):=hrow1.set 0 _
 have D1:=hide (hr1.other w.heap.size 0 (.int .u8 (x1:Int)) (by omega) (by omega))
 have M1:=hide ((M0.out.trans hm1).setNew w.heap.size 0 (.int .u8 (x1:Int)) (Nat.le_refl _))
 clear hrow1 hr1 R0 D0 M0
 have H1:=hide ho1
 clear ho1
 go_wp2_with fail
 refine (rn8_any B T r1 _ (by exact D1.out)).mono ?_
 rintro e w2 ⟨⟨x2,r2,v2,ho2,rfl,hx2,hr2⟩ | ⟨ho2,rfl⟩,hm2⟩
 rotate_left
 ·unfold fell50
  go_wp2
  exact⟨rfl,Or.inr ⟨by simp[D.chain,H1.out,ho2],rfl⟩,M1.out.trans hm2⟩
 subst hx2
 have hrow2:=row_mv R1.out (by omega) hm2
 have k2:w2.cell? ⟨w.heap.size,1,none⟩=some (.int .u8 0):=hrow2.cell 1
 have f2:=hrow2.frozen 1
 have R2:Hid (RowAt (w2.setCell ⟨w.heap.size,1,none⟩ (.int .u8 (x2:Int))) w.heap.size 183 #[.int .u8 (x1:Int),.int .u8 (x2:Int),.int .u16 0,.slice none 0 0,.slice none 0 0,.slice none 0 0]):=hrow2.set 1 _
 have D2:=hide (hr2.other w.heap.size 1 (.int .u8 (x2:Int)) (by omega) (by omega))
 have M2:=hide ((M1.out.trans hm2).setNew w.heap.size 1 (.int .u8 (x2:Int)) (Nat.le_refl _))
 clear hrow2 hr2 R1 D1 M1
 have H2:=hide ho2
 clear ho2
 go_wp2_with fail
 refine (rn16_any B T r2 _ (by exact D2.out)).mono ?_
 rintro e w3 ⟨⟨x3,r3,v3,ho3,rfl,hx3,hr3⟩ | ⟨ho3,rfl⟩,hm3⟩
 rotate_left
 ·unfold fell50
  go_wp2
  exact⟨rfl,Or.inr ⟨by simp[D.chain,H1.out,H2.out,ho3],rfl⟩,M2.out.trans hm3⟩
 subst hx3
 have hrow3:=row_mv R2.out (by omega) hm3
 have k3:w3.cell? ⟨w.heap.size,2,none⟩=some (.int .u16 0):=hrow3.cell 2
 have f3:=hrow3.frozen 2
 have R3:Hid (RowAt (w3.setCell ⟨w.heap.size,2,none⟩ (.int .u16 (x3:Int))) w.heap.size 183 #[.int .u8 (x1:Int),.int .u8 (x2:Int),.int .u16 (x3:Int),.slice none 0 0,.slice none 0 0,.slice none 0 0]):=hrow3.set 2 _
 have D3:=hide (hr3.other w.heap.size 2 (.int .u16 (x3:Int)) (by omega) (by omega))
 have M3:=hide ((M2.out.trans hm3).setNew w.heap.size 2 (.int .u16 (x3:Int)) (Nat.le_refl _))
 clear hrow3 hr3 R2 D2 M2
 have H3:=hide ho3
 clear ho3
 go_wp2_with fail
 refine (rcounted_any B T r3 _ (by exact D3.out)).mono ?_
 rintro e w4 ⟨⟨x4,r4,v4,ho4,rfl,hx4,hr4⟩ | ⟨ho4,rfl⟩,hm4⟩
 rotate_left
 ·unfold fell50
  go_wp2
  exact⟨rfl,Or.inr ⟨by simp[D.chain,H1.out,H2.out,H3.out,ho4],rfl⟩,M3.out.trans hm4⟩
 obtain⟨a4,c4,rfl,_,_,_,_⟩:=hx4.open
 have hrow4:=row_mv R3.out (by omega) hm4
 have k4:w4.cell? ⟨w.heap.size,3,none⟩=some (.slice none 0 0):=hrow4.cell 3
 have f4:=hrow4.frozen 3
 have R4:Hid (RowAt (w4.setCell ⟨w.heap.size,3,none⟩ (.slice a4 x4.length c4)) w.heap.size 183 #[.int .u8 (x1:Int),.int .u8 (x2:Int),.int .u16 (x3:Int),.slice a4 x4.length c4,.slice none 0 0,.slice none 0 0]):=hrow4.set 3 _
 have D4:=hide (hr4.other w.heap.size 3 (.slice a4 x4.length c4) (by omega) (by omega))
 have M4:=hide ((M3.out.trans hm4).setNew w.heap.size 3 (.slice a4 x4.length c4) (Nat.le_refl _))
 have O4_4:=hide (own_set (OwnB.lower hx4 (M3.out.size)) hrow4 (by decide) 3 (.slice a4 x4.length c4))
 clear hrow4 hr4 R3 D3 M3 hx4
 have H4:=hide ho4
 clear ho4
 go_wp2_with fail
 refine (rcounted_any B T r4 _ (by exact D4.out)).mono ?_
 rintro e w5 ⟨⟨x5,r5,v5,ho5,rfl,hx5,hr5⟩ | ⟨ho5,rfl⟩,hm5⟩
 rotate_left
 ·unfold fell50
  go_wp2
  exact⟨rfl,Or.inr ⟨by simp[D.chain,H1.out,H2.out,H3.out,H4.out,ho5],rfl⟩,M4.out.trans hm5⟩
 obtain⟨a5,c5,rfl,_,_,_,_⟩:=hx5.open
 have hrow5:=row_mv R4.out (by omega) hm5
 have k5:w5.cell? ⟨w.heap.size,4,none⟩=some (.slice none 0 0):=hrow5.cell 4
 have f5:=hrow5.frozen 4
 have R5:Hid (RowAt (w5.setCell ⟨w.heap.size,4,none⟩ (.slice a5 x5.length c5)) w.heap.size 183 #[.int .u8 (x1:Int),.int .u8 (x2:Int),.int .u16 (x3:Int),.slice a4 x4.length c4,.slice a5 x5.length c5,.slice none 0 0]):=hrow5.set 4 _
 have D5:=hide (hr5.other w.heap.size 4 (.slice a5 x5.length c5) (by omega) (by omega))
 have M5:=hide ((M4.out.trans hm5).setNew w.heap.size 4 (.slice a5 x5.length c5) (Nat.le_refl _))
 have O4_5:=hide (own_set (D4.out.ownB hm5 O4_4.out) hrow5 (by decide) 4 (.slice a5 x5.length c5))
 have O5_5:=hide (own_set (OwnB.lower hx5 (M4.out.size)) hrow5 (by decide) 4 (.slice a5 x5.length c5))
 clear hrow5 hr5 R4 D4 M4 O4_4 hx5
 have H5:=hide ho5
 clear ho5
 by_cases hn0:x5.length=0
 ·have hz:((x5.length:Int) == 0)=true:=by rw[hn0];rfl
  have HN0:=hide hn0
  clear hn0
  go_wp2
  exact⟨rfl,Or.inr ⟨by simp[D.chain,H1.out,H2.out,H3.out,H4.out,H5.out,List.eq_nil_of_length_eq_zero HN0.out],rfl⟩,M5.out⟩
 have hz:((x5.length:Int) == 0)=false:=beq_eq_false_iff_ne.2 (by omega)
 have HN0:Hid (¬ x5 = []):=fun e=>hn0 (by rw[e];rfl)
 clear hn0
 go_wp2_with fail
 refine (rothers_any B T r5 _ (by exact D5.out)).mono ?_
 rintro e w6 ⟨v6,rfl,hx6,hr6,hm6⟩
 obtain⟨a6,c6,rfl,hs6,hni6,hc6,hcm6⟩:=hx6.open
 have hlen:=D5.out.len
 have S6:=hide hs6
 have rw6:=hide (row_mv R5.out (by omega) hm6)
 have O4_6:=hide (D5.out.ownB hm6 O4_5.out)
 have O5_6:=hide (D5.out.ownB hm6 O5_5.out)
 have M6:=hide (M5.out.trans hm6)
 have D6:=hide hr6
 clear hs6 hx6 hr6 R5 O4_5 O5_5 M5 D5 hm6
 go_wp2_with fail
 refine (topen_any r5 a6 r5.length c6 _ rfl (by exact S6.out) hc6 (by unfold maxLen at hcm6;omega) (by omega)).mono ?_
 rintro e w7 ⟨hb7,⟨m,v7,ht,rfl,hO7⟩ | ⟨ht,rfl⟩⟩
 rotate_left
 ·have M7:=M6.out.trans (Mv.of hb7)
  have HT:=hide ht
  clear ht hb7
  go_wp2
  exact⟨rfl,Or.inr ⟨by simp[D.chain,H1.out,H2.out,H3.out,H4.out,H5.out,HT.out],rfl⟩,M7⟩
 obtain⟨a7,c7,rfl,_,_,_,_⟩:=hO7.open
 have hrow7:=rw6.out.below hb7 rw6.out.lt
 have g0:w7.cell? ⟨w.heap.size,0,none⟩=some (.int .u8 (x1:Int)):=hrow7.cell 0
 have e0:=hrow7.frozen 0
 have g1:w7.cell? ⟨w.heap.size,1,none⟩=some (.int .u8 (x2:Int)):=hrow7.cell 1
 have e1:=hrow7.frozen 1
 have g2:w7.cell? ⟨w.heap.size,2,none⟩=some (.int .u16 (x3:Int)):=hrow7.cell 2
 have e2:=hrow7.frozen 2
 have g3:w7.cell? ⟨w.heap.size,3,none⟩=some (.slice a4 x4.length c4):=hrow7.cell 3
 have e3:=hrow7.frozen 3
 have g4:w7.cell? ⟨w.heap.size,4,none⟩=some (.slice a5 x5.length c5):=hrow7.cell 4
 have e4:=hrow7.frozen 4
 have g5:w7.cell? ⟨w.heap.size,5,none⟩=some (.slice none 0 0):=hrow7.cell 5
 have e5:=hrow7.frozen 5
 have R7:Hid (RowAt (w7.setCell ⟨w.heap.size,5,none⟩ (.slice a7 m.length c7)) w.heap.size 183 #[.int .u8 (x1:Int),.int .u8 (x2:Int),.int .u16 (x3:Int),.slice a4 x4.length c4,.slice a5 x5.length c5,.slice a7 m.length c7]):=hrow7.set 5 _
 have D7:=hide ((D6.out.below hb7).other w.heap.size 5 (.slice a7 m.length c7) (by omega) (by omega))
 have M7:=hide ((M6.out.trans (Mv.of hb7)).setNew w.heap.size 5 (.slice a7 m.length c7) (Nat.le_refl _))
 have O4_7:=hide (own_set (O4_6.out.below hb7) hrow7 (by decide) 5 (.slice a7 m.length c7))
 have O5_7:=hide (own_set (O5_6.out.below hb7) hrow7 (by decide) 5 (.slice a7 m.length c7))
 have O6_7:=hide (own_set (OwnH.lower hO7 M6.out.size) hrow7 (by decide) 5 (.slice a7 m.length c7))
 have HT:=hide ht
 clear hO7 ht hb7 hrow7 D6 M6 O4_6 O5_6 rw6
 have RF:RowAt (((((((w7.setCell ⟨w.heap.size,5,none⟩ (.slice a7 m.length c7)).setCell ⟨w.heap.size,0,none⟩ (.int .u8 (x1:Int))).setCell ⟨w.heap.size,1,none⟩ (.int .u8 (x2:Int))).setCell ⟨w.heap.size,2,none⟩ (.int .u16 (x3:Int))).setCell ⟨w.heap.size,3,none⟩ (.slice a4 x4.length c4)).setCell ⟨w.heap.size,4,none⟩ (.slice a5 x5.length c5)).setCell ⟨w.heap.size,5,none⟩ (.slice a7 m.length c7)) w.heap.size 183 #[.int .u8 (x1:Int),.int .u8 (x2:Int),.int .u16 (x3:Int),.slice a4 x4.length c4,.slice a5 x5.length c5,.slice a7 m.length c7]:=((((((R7.out.same 0 rfl).same 1 rfl).same 2 rfl).same 3 rfl).same 4 rfl).same 5 rfl)
 have UF:Upd w.heap.size (w7.setCell ⟨w.heap.size,5,none⟩ (.slice a7 m.length c7)) (((((((w7.setCell ⟨w.heap.size,5,none⟩ (.slice a7 m.length c7)).setCell ⟨w.heap.size,0,none⟩ (.int .u8 (x1:Int))).setCell ⟨w.heap.size,1,none⟩ (.int .u8 (x2:Int))).setCell ⟨w.heap.size,2,none⟩ (.int .u16 (x3:Int))).setCell ⟨w.heap.size,3,none⟩ (.slice a4 x4.length c4)).setCell ⟨w.heap.size,4,none⟩ (.slice a5 x5.length c5)).setCell ⟨w.heap.size,5,none⟩ (.slice a7 m.length c7)):=(((((((Upd.refl w.heap.size (w7.setCell ⟨w.heap.size,5,none⟩ (.slice a7 m.length c7))).set 0 (.int .u8 (x1:Int))).set 1 (.int .u8 (x2:Int))).set 2 (.int .u16 (x3:Int))).set 3 (.slice a4 x4.length c4)).set 4 (.slice a5 x5.length c5)).set 5 (.slice a7 m.length c7))
 go_wp2
 generalize (((((((w7.setCell ⟨w.heap.size,5,none⟩ (.slice a7 m.length c7)).setCell ⟨w.heap.size,0,none⟩ (.int .u8 (x1:Int))).setCell ⟨w.heap.size,1,none⟩ (.int .u8 (x2:Int))).setCell ⟨w.heap.size,2,none⟩ (.int .u16 (x3:Int))).setCell ⟨w.heap.size,3,none⟩ (.slice a4 x4.length c4)).setCell ⟨w.heap.size,4,none⟩ (.slice a5 x5.length c5)).setCell ⟨w.heap.size,5,none⟩ (.slice a7 m.length c7))=F at RF UF ⊢
 have q0:F.cell? ⟨w.heap.size,0,none⟩=some (.int .u8 (x1:Int)):=RF.cell 0
 have q1:F.cell? ⟨w.heap.size,1,none⟩=some (.int .u8 (x2:Int)):=RF.cell 1
 have q2:F.cell? ⟨w.heap.size,2,none⟩=some (.int .u16 (x3:Int)):=RF.cell 2
 have q3:F.cell? ⟨w.heap.size,3,none⟩=some (.slice a4 x4.length c4):=RF.cell 3
 have q4:F.cell? ⟨w.heap.size,4,none⟩=some (.slice a5 x5.length c5):=RF.cell 4
 have q5:F.cell? ⟨w.heap.size,5,none⟩=some (.slice a7 m.length c7):=RF.cell 5
 simp[bodyPost,results,Tryz.results155,go_sem,q0,q1,q2,q3,q4,q5]
 refine⟨Or.inl ⟨⟨x1,x2,x3,x4,x5,m⟩,_,_,by simp[D.chain,H1.out,H2.out,H3.out,H4.out,H5.out,HN0.out,HT.out],rfl,⟨_,_,_,_,_,_,rfl,UF.own R7.out (by decide) O4_7.out,UF.own R7.out (by decide) O5_7.out,UF.own R7.out (by decide) O6_7.out⟩,UF.rdr D7.out (by omega) (by omega)⟩,UF.mv M7.out (Nat.le_refl _)⟩
end Go.Proofs.YtmbcegljmhcdeaaGreat
