/- KeyBytes .. of package rdata (a text of stage 5, at this seat). -/
import Derived.Test.YtbkegikdmmnkaaaGreatChecked
import Init
import Derived.Test.YtbkegikdmmnkaaaGreatZpl
import Derived.Recover
import Derived.Laws.BitsAllLaws
import Derived.Deep.RegionLaw
namespace Go.Proofs.YtbkegikdmmnkaaaGreat
set_option maxRecDepth 5000
namespace T
def Rise (l:List Nat):Prop:=l.Pairwise (· < ·)
theorem rise_ext : ∀ (a b:List Nat),Rise a->Rise b->(∀ x,x∈a↔x∈b)->a=b
 | [], [],_,_,_=>rfl
 | [],y::b,_,_,h=>absurd ((h y).2 (by simp)) (by simp)
 | x::a, [],_,_,h=>absurd ((h x).1 (by simp)) (by simp)
 | x::a,y::b,ha,hb,h=>by
  have h1:=List.pairwise_cons.1 ha
  have h2:=List.pairwise_cons.1 hb
  have e:x=y:=by
   have hx:=(h x).1 (by simp)
   have hy:=(h y).2 (by simp)
   rcases List.mem_cons.1 hx with e | e
   ·exact e
   ·rcases List.mem_cons.1 hy with e' | e'
    ·exact e'.symm
    ·have:=h2.1 x e;have:=h1.1 y e';omega
  subst e
  rw[rise_ext a b h1.2 h2.2 fun z=>?_]
  constructor
  ·intro hz
   rcases List.mem_cons.1 ((h z).1 (List.mem_cons_of_mem _ hz)) with e | e
   ·have:=h1.1 z hz;omega
   ·exact e
  ·intro hz
   rcases List.mem_cons.1 ((h z).2 (List.mem_cons_of_mem _ hz)) with e | e
   ·have:=h2.1 z hz;omega
   ·exact e
def Rising (l:List UInt16):Prop:=l.Pairwise (fun x y=>x.toNat<y.toNat)
theorem Rising.rise {l:List UInt16} (h:Rising l):Rise (l.map UInt16.toNat):=by
 unfold Rise;rw[List.pairwise_map];exact h
theorem map_inj {a b:List UInt16} (h:a.map UInt16.toNat=b.map UInt16.toNat):a=b:=by
 induction a generalizing b with
 | nil=>cases b with
  | nil=>rfl
  | cons y b=>simp at h
 | cons x a ih=>cases b with
  | nil=>simp at h
  | cons y b =>
   simp only[List.map_cons,List.cons.injEq] at h
   rw[ih h.2,UInt16.toNat_inj.1 h.1]
theorem rising_ext (a b:List UInt16) (ha:Rising a) (hb:Rising b) (h : ∀ x,x∈a↔x∈b):a=b:=by
 refine map_inj (rise_ext _ _ ha.rise hb.rise fun x=>?_)
 simp only[List.mem_map,h]
def IsClean (l c:List UInt16):Prop:=Rising c /\ ∀ x,x∈c↔x∈l
theorem IsClean.unique {l c c':List UInt16} (h:IsClean l c) (h':IsClean l c'):c=c':=rising_ext _ _ h.1 h'.1 fun x=>(h.2 x).trans (h'.2 x).symm
theorem IsClean.self {l c:List UInt16} (hl:Rising l) (h:IsClean l c):c=l:=h.unique ⟨hl,fun _=>Iff.rfl⟩
def has (b:List UInt8) (p:Nat):Bool:=(b.getD (p / 8) 0).toNat.testBit (7 - p % 8)
def setb (b:List UInt8) (p:Nat):List UInt8:=b.set (p / 8) (UInt8.ofNat ((b.getD (p / 8) 0).toNat ||| 2 ^ (7 - p % 8)))
theorem setb_len (b:List UInt8) (p:Nat):(setb b p).length=b.length:=by simp[setb]
theorem or_small (x:UInt8) (k:Nat) (hk:k<8):x.toNat ||| 2 ^ k<256:=by
 have h1:x.toNat<2 ^ 8:=x.toNat_lt
 have h2:2 ^ k<2 ^ 8:=Nat.pow_lt_pow_right (by omega) hk
 exact Nat.or_lt_two_pow h1 h2
theorem has_setb (b:List UInt8) (p q:Nat) (hp:p / 8<b.length):has (setb b p) q=(decide (q=p) || has b q):=by
 unfold has setb
 by_cases e:q / 8=p / 8
 ·rw[e,List.getD_eq_getElem?_getD,List.getElem?_set_self hp,Option.getD_some,UInt8.toNat_ofNat',Nat.mod_eq_of_lt (or_small _ _ (by omega)),Nat.testBit_or,Nat.testBit_two_pow]
  by_cases e2:q=p
  ·subst e2;simp
  ·have : ¬ (7 - p % 8=7 - q % 8):=by omega
   simp[this,e2]
 ·have e2:q≠p:=by intro h;subst h;exact e rfl
  rw[List.getD_eq_getElem?_getD,List.getElem?_set_ne (by omega), <- List.getD_eq_getElem?_getD]
  simp[e2]
theorem byte_ext (x y:UInt8) (h : ∀ j,j<8->x.toNat.testBit (7 - j)=y.toNat.testBit (7 - j)):x=y:=by
 refine UInt8.toNat_inj.1 (Nat.eq_of_testBit_eq fun i=>?_)
 by_cases hi:i<8
 ·have:=h (7 - i) (by omega)
  rwa [show 7 - (7 - i)=i by omega] at this
 ·have h1:x.toNat<2 ^ 8:=x.toNat_lt
  have h2:y.toNat<2 ^ 8:=y.toNat_lt
  have h3:2 ^ 8<=2 ^ i:=Nat.pow_le_pow_right (by omega) (by omega)
  rw[Nat.testBit_lt_two_pow (by omega),Nat.testBit_lt_two_pow (by omega)]
theorem has_ext (a b:List UInt8) (hl:a.length=b.length) (h : ∀ p,p<8*a.length->has a p=has b p):a=b:=by
 refine List.ext_getElem hl fun k h1 h2=>byte_ext _ _ fun j hj=>?_
 have:=h (8*k+j) (by omega)
 unfold has at this
 rw[show (8*k+j) / 8=k by omega,show (8*k+j) % 8=j by omega] at this
 simpa [h1,h2] using this
def row (n:Nat) (ps:List Nat):List UInt8:=ps.foldl setb (List.replicate n 0)
theorem fold_len (ps:List Nat) : ∀ b:List UInt8,(ps.foldl setb b).length=b.length:=by
 induction ps with
 | nil=>intro b;rfl
 | cons p ps ih=>intro b;rw[List.foldl_cons,ih,setb_len]
theorem row_len (n:Nat) (ps:List Nat):(row n ps).length=n:=by unfold row;rw[fold_len];simp
theorem row_snoc (n:Nat) (ps:List Nat) (p:Nat):row n (ps ++ [p])=setb (row n ps) p:=by unfold row;rw[List.foldl_append];rfl
theorem has_fold (ps:List Nat) : ∀ (b:List UInt8) (q:Nat),(∀ p∈ps,p / 8<b.length)->has (ps.foldl setb b) q=(decide (q∈ps) || has b q):=by
 induction ps with
 | nil=>intro b q _;simp
 | cons p ps ih =>
  intro b q h
  rw[List.foldl_cons,ih _ _ (fun x hx=>by rw[setb_len];exact h x (List.mem_cons_of_mem _ hx)),has_setb _ _ _ (h p (by simp))]
  by_cases e:q=p <;> simp[e]
theorem has_zero (n q:Nat):has (List.replicate n 0) q=false:=by
 unfold has
 have:(List.replicate n (0:UInt8)).getD (q / 8) 0=0:=by
  rw[List.getD_eq_getElem?_getD,List.getElem?_replicate];split <;> rfl
 rw[this];simp
theorem has_row (n:Nat) (ps:List Nat) (q:Nat) (h : ∀ p∈ps,p<8*n):has (row n ps) q=decide (q∈ps):=by
 unfold row
 rw[has_fold _ _ _ (fun p hp=>by have:=h p hp;simp;omega),has_zero];simp
theorem has_take (b:List UInt8) (n q:Nat) (h:q<8*n):has (b.take n) q=has b q:=by
 unfold has
 have:q / 8<n:=by omega
 simp[List.getD_eq_getElem?_getD,this]
theorem row_take (n m:Nat) (ps:List Nat) (h : ∀ p∈ps,p<8*n) (hn:n<=m):(row m ps).take n=row n ps:=by
 refine has_ext _ _ (by rw[List.length_take,row_len,row_len];omega) fun p hp=>?_
 rw[List.length_take,row_len] at hp
 rw[has_take _ _ _ (by omega),has_row _ _ _ (fun p hp=>by have:=h p hp;omega),has_row _ _ _ h]
def places (b:List UInt8):List Nat:=(List.range (8*b.length)).filter (has b)
theorem range_rise (n:Nat):Rise (List.range n):=List.pairwise_lt_range
theorem places_rise (b:List UInt8):Rise (places b):=(range_rise _).filter _
theorem mem_places (b:List UInt8) (p:Nat):p∈places b↔p<8*b.length/\has b p=true:=by simp[places]
theorem places_row (n:Nat) (ps:List Nat) (hr:Rise ps) (h : ∀ p∈ps,p<8*n):places (row n ps)=ps:=by
 refine rise_ext _ _ (places_rise _) hr fun x=>?_
 rw[mem_places,row_len,has_row _ _ _ h,decide_eq_true_eq]
 exact⟨fun hx=>hx.2,fun hx=>⟨h x hx,hx⟩⟩
theorem row_places (b:List UInt8):row b.length (places b)=b:=by
 have hb : ∀ p∈places b,p<8*b.length:=fun p hp=>((mem_places b p).1 hp).1
 refine has_ext _ _ (row_len _ _) fun p hp=>?_
 rw[row_len] at hp
 rw[has_row _ _ _ hb]
 by_cases h:has b p=true
 ·rw[h,decide_eq_true_eq];exact (mem_places b p).2 ⟨hp,h⟩
 ·have h0:has b p=false:=by simpa using h
  rw[h0,decide_eq_false_iff_not];exact fun hm=>h ((mem_places b p).1 hm).2
def hi (t:UInt16):Nat:=t.toNat / 256
def lo (t:UInt16):Nat:=t.toNat % 256
def mk (w p:Nat):UInt16:=UInt16.ofNat (w*256+p)
theorem hi_lt (t:UInt16):hi t<256:=by have:=t.toNat_lt;unfold hi;omega
theorem lo_lt (t:UInt16):lo t<256:=by unfold lo;omega
theorem mk_eq (t:UInt16):mk (hi t) (lo t)=t:=by
 refine UInt16.toNat_inj.1 ?_
 have:=t.toNat_lt
 unfold mk hi lo;rw[UInt16.toNat_ofNat'];omega
theorem hi_mk (w p:Nat) (hw:w<256) (hp:p<256):hi (mk w p)=w:=by unfold hi mk;rw[UInt16.toNat_ofNat'];omega
theorem lo_mk (w p:Nat) (_hw:w<256) (hp:p<256):lo (mk w p)=p:=by unfold lo mk;rw[UInt16.toNat_ofNat'];omega
theorem mk_nat (w p:Nat) (hw:w<256) (hp:p<256):(mk w p).toNat=w*256+p:=by unfold mk;rw[UInt16.toNat_ofNat'];omega
def size (ps:List Nat):Nat:=ps.getLastD 0 / 8+1
def win (w:Nat) (ps:List Nat):List UInt8:=UInt8.ofNat w::UInt8.ofNat (size ps)::row (size ps) ps
def same (t:UInt16) (x:UInt16):Bool:=decide (hi x=hi t)
theorem drop_le (t:UInt16) (r:List UInt16):(r.dropWhile (same t)).length<=r.length:=by
 induction r with
 | nil=>simp
 | cons x r ih=>rw[List.dropWhile_cons];split <;> simp <;> omega
def bmp:List UInt16->List UInt8
 | [] => []
 | t::r=>win (hi t) ((t::r.takeWhile (same t)).map lo)++bmp (r.dropWhile (same t))
termination_by l => l.length
decreasing_by have := drop_le t r; simp; omega
theorem bmp_nil:bmp [] = []:=by rw[bmp]
theorem bmp_cons (t:UInt16) (r:List UInt16):bmp (t::r)=win (hi t) ((t::r.takeWhile (same t)).map lo)++bmp (r.dropWhile (same t)):=by rw[bmp]
def typ (w:Nat) (b:List UInt8):List UInt16:=(places b).map (mk w)
def bad (least:Nat) (x n:UInt8) (r:List UInt8):Prop:=x.toNat<least\/n.toNat=0\/32<n.toNat\/r.length<n.toNat\/r.getD (n.toNat - 1) 0=0
instance (least:Nat) (x n:UInt8) (r:List UInt8):Decidable (bad least x n r):=by unfold bad;infer_instance
def opn (least:Nat):List UInt8->Option (List UInt16)
 | []=>some []
 | [_]=>none
 | x::n::r=>if bad least x n r then none else (opn (x.toNat+1) (r.drop n.toNat)).map (typ x.toNat (r.take n.toNat) ++ ·)
termination_by l => l.length
decreasing_by simp; omega
theorem opn_nil (least:Nat):opn least []=some []:=by rw[opn]
theorem opn_one (least:Nat) (x:UInt8):opn least [x]=none:=by rw[opn]
theorem opn_two (least:Nat) (x n:UInt8) (r:List UInt8):opn least (x::n::r)=if bad least x n r then none else (opn (x.toNat+1) (r.drop n.toNat)).map (typ x.toNat (r.take n.toNat) ++ ·):=by rw[opn]
theorem last_mem (ps:List Nat) (h:ps ≠ []):ps.getLastD 0∈ps:=by
 rw[List.getLastD_eq_getLast?,List.getLast?_eq_some_getLast h]
 exact List.getLast_mem h
theorem last_max (ps:List Nat) (hr:Rise ps) : ∀ p∈ps,p<=ps.getLastD 0:=by
 induction ps with
 | nil=>simp
 | cons x ps ih =>
  intro p hp
  have h:=List.pairwise_cons.1 hr
  cases ps with
  | nil=>simp at hp;simp[hp]
  | cons y ps =>
   have e:(x::y::ps).getLastD 0=(y::ps).getLastD 0:=by simp[List.getLastD_eq_getLast?,List.getLast?_cons_cons]
   rw[e]
   rcases List.mem_cons.1 hp with rfl | hp
   ·have h1:=h.1 y (by simp)
    have h2:=ih h.2 y (by simp)
    omega
   ·exact ih h.2 p hp
theorem size_bound (ps:List Nat) (hr:Rise ps) : ∀ p∈ps,p<8*size ps:=fun p hp=>by have:=last_max ps hr p hp;unfold size;omega
theorem size_le (ps:List Nat) (h : ∀ p∈ps,p<256):size ps<=32:=by
 unfold size
 by_cases e:ps = []
 ·subst e;simp
 ·have:=h _ (last_mem ps e);omega
theorem row_last (ps:List Nat) (h:ps ≠ []) (hr:Rise ps):(row (size ps) ps).getD (size ps - 1) 0≠0:=by
 intro e
 have h1:=has_row (size ps) ps (ps.getLastD 0) (size_bound ps hr)
 rw[decide_eq_true (last_mem ps h)] at h1
 unfold has at h1
 rw[show ps.getLastD 0 / 8=size ps - 1 by unfold size;omega,e] at h1
 simp at h1
theorem size_places (b:List UInt8) (hb:0<b.length) (h:b.getD (b.length - 1) 0≠0):size (places b)=b.length/\places b ≠ []:=by
 obtain⟨j,hj,hb1⟩ : ∃ j,j<8/\has b (8*(b.length - 1)+j)=true:=by
  apply Classical.byContradiction
  intro hn
  refine h (byte_ext _ _ fun j hj=>?_)
  have:has b (8*(b.length - 1)+j)=false:=by
   by_cases e:has b (8*(b.length - 1)+j)=true
   ·exact absurd ⟨j,hj,e⟩ hn
   ·simpa using e
  unfold has at this
  rw[show (8*(b.length - 1)+j) / 8=b.length - 1 by omega,show (8*(b.length - 1)+j) % 8=j by omega] at this
  rw[this];simp
 have hm:8*(b.length - 1)+j∈places b:=(mem_places b _).2 ⟨by omega,hb1⟩
 have hne:places b ≠ []:=List.ne_nil_of_mem hm
 have h1:=last_max _ (places_rise b) _ hm
 have h2:=((mem_places b _).1 (last_mem _ hne)).1
 exact⟨by unfold size;omega,hne⟩
theorem takeWhile_all {p:UInt16->Bool} (a b:List UInt16) (ha : ∀ x∈a,p x=true) (hb : ∀ x∈b,p x=false):(a++b).takeWhile p=a/\(a++b).dropWhile p=b:=by
 induction a with
 | nil =>
  cases b with
  | nil=>simp
  | cons y b=>simp[hb y (by simp)]
 | cons x a ih =>
  have:=ih (fun y hy=>ha y (List.mem_cons_of_mem _ hy))
  simp[ha x (by simp),this]
theorem takeWhile_mem {p:UInt16->Bool} (r:List UInt16) : ∀ x∈r.takeWhile p,p x=true:=by
 induction r with
 | nil=>simp
 | cons y r ih =>
  intro x hx
  rw[List.takeWhile_cons] at hx
  split at hx
  ·rcases List.mem_cons.1 hx with rfl | hx
   ·assumption
   ·exact ih x hx
  ·simp at hx
theorem rest_hi (t:UInt16) (r:List UInt16) (h:Rising (t::r)) : ∀ x∈r.dropWhile (same t),hi t+1<=hi x:=by
 induction r with
 | nil=>simp
 | cons y r ih =>
  intro x hx
  have h1:=List.pairwise_cons.1 h
  have h2:=List.pairwise_cons.1 h1.2
  rw[List.dropWhile_cons] at hx
  split at hx
  ·exact ih (List.pairwise_cons.2 ⟨fun z hz=>h1.1 z (List.mem_cons_of_mem _ hz),h2.2⟩) x hx
  ·rename_i hs
   have hy:hi y≠hi t:=by simpa [same] using hs
   have h3:=h1.1 y (by simp)
   have h4:y.toNat<=x.toNat:=by
    rcases List.mem_cons.1 hx with rfl | hx
    ·omega
    ·have:=h2.1 x hx;omega
   unfold hi at *; omega
theorem rising_sub {a b:List UInt16} (hs:a.Sublist b) (h:Rising b):Rising a:=h.sublist hs
theorem rising_rest (t:UInt16) (r:List UInt16) (h:Rising (t::r)):Rising (r.dropWhile (same t)):=rising_sub (List.dropWhile_sublist _) (List.pairwise_cons.1 h).2
theorem rising_take (t:UInt16) (r:List UInt16) (h:Rising (t::r)):Rising (t::r.takeWhile (same t)):=rising_sub ((List.takeWhile_sublist _).cons_cons t) h
theorem take_hi (t:UInt16) (r:List UInt16) : ∀ x∈t::r.takeWhile (same t),hi x=hi t:=fun x hx=>by
 rcases List.mem_cons.1 hx with rfl | hx
 ·rfl
 ·simpa [same] using takeWhile_mem r x hx
theorem rise_lo (t:UInt16) (l:List UInt16) (h:Rising l) (hh : ∀ x∈l,hi x=hi t):Rise (l.map lo):=by
 unfold Rise;rw[List.pairwise_map]
 refine h.imp_of_mem fun {x y} hx hy hxy=>?_
 have h1:=hh x hx
 have h2:=hh y hy
 unfold hi at h1 h2;unfold lo;omega
theorem mk_lo (w:Nat) (l:List UInt16) (hh : ∀ x∈l,hi x=w):(l.map lo).map (mk w)=l:=by
 rw[List.map_map]
 conv=>rhs;rw[<- List.map_id l]
 refine List.map_congr_left fun x hx=>?_
 show mk w (lo x)=x
 rw[<- hh x hx];exact mk_eq x
theorem nat8 (n:Nat) (h:n<256):(UInt8.ofNat n).toNat=n:=by rw[UInt8.toNat_ofNat'];omega
theorem opn_bmp (k:Nat) : ∀ (l:List UInt16) (least:Nat),l.length<=k->Rising l->(∀ t∈l,least<=hi t)->opn least (bmp l)=some l:=by
 induction k with
 | zero=>intro l least hl _ _;obtain rfl:l = []:=List.eq_nil_of_length_eq_zero (by omega);rw[bmp_nil,opn_nil]
 | succ k ih =>
  intro l least hl hr hh
  cases l with
  | nil=>rw[bmp_nil,opn_nil]
  | cons t r =>
   rw[bmp_cons]
   have hps:=rise_lo t _ (rising_take t r hr) (take_hi t r)
   have hml:=mk_lo (hi t) _ (take_hi t r)
   have hne:(t::r.takeWhile (same t)).map lo ≠ []:=by simp
   have hlt : ∀ p∈(t::r.takeWhile (same t)).map lo,p<256:=fun p hp=>by
    obtain⟨x,_,rfl⟩:=List.mem_map.1 hp;exact lo_lt x
   generalize (t::r.takeWhile (same t)).map lo=ps at hps hml hne hlt ⊢
   have hsz:=size_le ps hlt
   have hs0:0<size ps:=by unfold size;omega
   have hrow:=row_len (size ps) ps
   unfold win
   rw[List.cons_append,List.cons_append,opn_two,nat8 _ (hi_lt t),nat8 _ (by omega)]
   rw[if_neg (by
    unfold bad
    rw[nat8 _ (hi_lt t),nat8 _ (by omega)]
    rintro (h | h | h | h | h)
    ·have:=hh t (by simp);omega
    ·omega
    ·omega
    ·rw[List.length_append] at h;omega
    ·rw[List.getD_eq_getElem?_getD,List.getElem?_append_left (by omega), <- List.getD_eq_getElem?_getD] at h
     exact row_last ps hne hps h)]
   rw[List.drop_left' hrow,List.take_left' hrow,ih _ _ (by have:=drop_le t r;simp at hl;omega) (rising_rest t r hr) (rest_hi t r hr)]
   unfold typ
   rw[places_row _ _ hps (size_bound ps hps),hml,Option.map_some,List.cons_append,List.takeWhile_append_dropWhile]
theorem bmp_opn (k:Nat) : ∀ (b:List UInt8) (least:Nat) (m:List UInt16),b.length<=k->opn least b=some m->bmp m=b/\Rising m /\ ∀ t∈m,least<=hi t:=by
 induction k with
 | zero =>
  intro b least m hl h
  obtain rfl:b = []:=List.eq_nil_of_length_eq_zero (by omega)
  rw[opn_nil] at h;cases h;exact⟨bmp_nil,List.Pairwise.nil,by simp⟩
 | succ k ih =>
  intro b least m hl h
  match b,hl,h with
  | [],_,h=>rw[opn_nil] at h;cases h;exact⟨bmp_nil,List.Pairwise.nil,by simp⟩
  | [_],_,h=>rw[opn_one] at h;cases h
  | x::n::r,hl,h =>
   rw[opn_two] at h
   split at h
   ·cases h
   ·rename_i hg
    unfold bad at hg
    simp only[not_or] at hg
    obtain⟨g1,g2,g3,g4,g5⟩:=hg
    obtain⟨m',hm',rfl⟩:=Option.map_eq_some_iff.1 h
    obtain⟨i1,i2,i3⟩:=ih _ _ _ (by rw[List.length_drop];simp at hl;omega) hm'
    have hbl:(r.take n.toNat).length=n.toNat:=by rw[List.length_take];omega
    have hlast:(r.take n.toNat).getD ((r.take n.toNat).length - 1) 0≠0:=by
     rw[hbl,List.getD_eq_getElem?_getD,List.getElem?_take,if_pos (by omega), <- List.getD_eq_getElem?_getD];exact g5
    obtain⟨s1,s2⟩:=size_places _ (by omega) hlast
    have hx:x.toNat<256:=x.toNat_lt
    have hpl : ∀ p∈places (r.take n.toNat),p<256:=fun p hp=>by have:=((mem_places _ p).1 hp).1;omega
    have hps:=places_rise (r.take n.toNat)
    have hrow:=row_places (r.take n.toNat)
    rw[hbl] at s1 hrow
    have htk:r.take n.toNat++r.drop n.toNat=r:=List.take_append_drop _ _
    unfold typ
    generalize hP:places (r.take n.toNat)=ps at *
    cases ps with
    | nil=>exact absurd rfl s2
    | cons p ps =>
     have hpp : ∀ q∈p::ps,hi (mk x.toNat q)=x.toNat:=fun q hq=>hi_mk _ _ hx (hpl q hq)
     have hR:Rising ((p::ps).map (mk x.toNat)):=by
      unfold Rising;rw[List.pairwise_map]
      refine hps.imp_of_mem fun {u v} hu hv huv=>?_
      rw[mk_nat _ _ hx (hpl u hu),mk_nat _ _ hx (hpl v hv)];omega
     refine⟨?_,?_,?_⟩
     ·rw[List.map_cons,List.cons_append,bmp_cons]
      obtain⟨t1,t2⟩:=takeWhile_all (p:=same (mk x.toNat p)) (ps.map (mk x.toNat)) m' (fun y hy=>by
       obtain⟨q,hq,rfl⟩:=List.mem_map.1 hy
       simp only[same,decide_eq_true_eq];rw[hpp q (List.mem_cons_of_mem _ hq),hpp p (by simp)]) (fun y hy=>by
       simp only[same,decide_eq_false_iff_not];rw[hpp p (by simp)];have:=i3 y hy;omega)
      rw[t1,t2,i1,hpp p (by simp), <- List.map_cons,List.map_map]
      have e:(p::ps).map (lo ∘ mk x.toNat)=p::ps:=by
       conv=>rhs;rw[<- List.map_id (p::ps)]
       exact List.map_congr_left fun q hq=>lo_mk _ _ hx (hpl q hq)
      rw[e]
      unfold win
      rw[s1,hrow,UInt8.ofNat_toNat,UInt8.ofNat_toNat,List.cons_append,List.cons_append,htk]
     ·unfold Rising
      rw[List.pairwise_append]
      refine⟨hR,i2,fun u hu v hv=>?_⟩
      obtain⟨q,hq,rfl⟩:=List.mem_map.1 hu
      have h1:=i3 v hv
      have h2:=hpl q hq
      rw[mk_nat _ _ hx h2]
      unfold hi at h1;omega
     ·intro t ht
      rcases List.mem_append.1 ht with ht | ht
      ·obtain⟨q,hq,rfl⟩:=List.mem_map.1 ht
       rw[hpp q hq];omega
      ·have:=i3 t ht;omega
end T
namespace D
def by_ (k:Nat) (b:List UInt8):Option (List UInt8 × List UInt8):=if b.length<k then none else some (b.take k,b.drop k)
def n8:List UInt8->Option (Nat × List UInt8)
 | x::r=>some (x.toNat,r)
 | _=>none
def n16:List UInt8->Option (Nat × List UInt8)
 | x::y::r=>some (x.toNat*256+y.toNat,r)
 | _=>none
def n32 (b:List UInt8):Option (Nat × List UInt8):=(n16 b).bind fun p=>(n16 p.2).map fun q=>(p.1*65536+q.1,q.2)
def cnt (b:List UInt8):Option (List UInt8 × List UInt8):=(n8 b).bind fun p=>by_ p.1 p.2
def nm (b:List UInt8):Option (List (List UInt8) × List UInt8):=(N.opn b).bind fun n=>if N.size n<=255 then some (n,b.drop (N.size n)) else none
def p16 (n:Nat):List UInt8 := [UInt8.ofNat (n / 256),UInt8.ofNat n]
def p32 (n:Nat):List UInt8:=p16 (n / 65536)++p16 (n % 65536)
def pc (b:List UInt8):List UInt8:=UInt8.ofNat b.length::b
structure Soa where
 main:List (List UInt8)
 box:List (List UInt8)
 a:Nat
 b:Nat
 c:Nat
 d:Nat
 e:Nat
structure Sig where
 type:Nat
 alg:Nat
 labels:Nat
 ttl:Nat
 expire:Nat
 begin_:Nat
 tag:Nat
 signer:List (List UInt8)
 sig:List UInt8
structure Chain where
 hash:Nat
 flags:Nat
 iter:Nat
 salt:List UInt8
 next:List UInt8
 types:List UInt16
structure Key where
 flags:Nat
 proto:Nat
 alg:Nat
 key:List UInt8
def soa (l:List UInt8):Option (Soa × List UInt8) :=
 (nm l).bind fun m=>(nm m.2).bind fun x=>(n32 x.2).bind fun a=>(n32 a.2).bind fun b=>(n32 b.2).bind fun c=>(n32 c.2).bind fun d=>(n32 d.2).map fun e=>(⟨m.1,x.1,a.1,b.1,c.1,d.1,e.1⟩,e.2)
def sig (l:List UInt8):Option (Sig × List UInt8) :=
 (n16 l).bind fun t=>(n8 t.2).bind fun a=>(n8 a.2).bind fun k=>(n32 k.2).bind fun x=>(n32 x.2).bind fun y=>(n32 y.2).bind fun z=>(n16 z.2).bind fun g=>(nm g.2).map fun s=>(⟨t.1,a.1,k.1,x.1,y.1,z.1,g.1,s.1,s.2⟩, [])
def chain (l:List UInt8):Option (Chain × List UInt8) :=
 (n8 l).bind fun h=>(n8 h.2).bind fun f=>(n16 f.2).bind fun i=>(cnt i.2).bind fun s=>(cnt s.2).bind fun n=>if n.1.length=0 then none else (T.opn 0 n.2).map fun t=>(⟨h.1,f.1,i.1,s.1,n.1,t⟩, [])
def key (l:List UInt8):Option (Key × List UInt8) :=
 (n16 l).bind fun f=>(n8 f.2).bind fun p=>(n8 p.2).map fun a=>(⟨f.1,p.1,a.1,a.2⟩, [])
def soaB (s:Soa):List UInt8:=N.wire s.main++N.wire s.box++p32 s.a++p32 s.b++p32 s.c++p32 s.d++p32 s.e
def sigB (s:Sig):List UInt8:=p16 s.type ++ [UInt8.ofNat s.alg,UInt8.ofNat s.labels]++p32 s.ttl++p32 s.expire++p32 s.begin_++p16 s.tag++N.wire s.signer++s.sig
def chainB (c:Chain):List UInt8 := [UInt8.ofNat c.hash,UInt8.ofNat c.flags]++p16 c.iter++pc c.salt++pc c.next++T.bmp c.types
def keyB (k:Key):List UInt8:=p16 k.flags ++ [UInt8.ofNat k.proto,UInt8.ofNat k.alg]++k.key
def Good (n:List (List UInt8)):Prop := [] ∉ n/\(∀ l∈n,l.length<=63)/\N.size n<=255
def Soa.Ok (s:Soa):Prop:=Good s.main/\Good s.box/\s.a<4294967296/\s.b<4294967296/\s.c<4294967296/\s.d<4294967296/\s.e<4294967296
def Sig.Ok (s:Sig):Prop:=s.type<65536/\s.alg<256/\s.labels<256/\s.ttl<4294967296/\s.expire<4294967296/\s.begin_<4294967296/\s.tag<65536/\Good s.signer
def Chain.Ok (c:Chain):Prop:=c.hash<256/\c.flags<256/\c.iter<65536/\c.salt.length<=255/\c.next.length<=255/\c.next ≠ []/\T.Rising c.types
def Key.Ok (k:Key):Prop:=k.flags<65536/\k.proto<256/\k.alg<256
theorem u8_nat (x:UInt8):UInt8.ofNat x.toNat=x:=by simp
theorem nat_u8 (n:Nat) (h:n<256):(UInt8.ofNat n).toNat=n:=by rw[UInt8.toNat_ofNat'];omega
theorem n8_back {b r:List UInt8} {x:Nat} (h:n8 b=some (x,r)):b=UInt8.ofNat x::r/\x<256:=by
 match b,h with
 | y::r',h=>cases h;exact⟨by rw[u8_nat],y.toNat_lt⟩
theorem p16_of (x y:UInt8):p16 (x.toNat*256+y.toNat) = [x,y]:=by
 have hx:=x.toNat_lt
 have hy:=y.toNat_lt
 unfold p16
 rw[show (x.toNat*256+y.toNat) / 256=x.toNat by omega,u8_nat]
 congr 2
 apply UInt8.toNat_inj.1
 rw[UInt8.toNat_ofNat'];omega
theorem n16_back {b r:List UInt8} {x:Nat} (h:n16 b=some (x,r)):b=p16 x++r/\x<65536:=by
 match b,h with
 | y::z::r',h =>
  cases h
  have hx:=y.toNat_lt
  have hy:=z.toNat_lt
  exact⟨by rw[p16_of];rfl,by omega⟩
theorem n32_back {b r:List UInt8} {x:Nat} (h:n32 b=some (x,r)):b=p32 x++r/\x<4294967296:=by
 unfold n32 at h
 rw[Option.bind_eq_some_iff] at h
 obtain⟨⟨u,r1⟩,h1,h⟩:=h
 rw[Option.map_eq_some_iff] at h
 obtain⟨⟨v,r2⟩,h2,h⟩:=h
 cases h
 obtain⟨e1,l1⟩:=n16_back h1
 obtain⟨e2,l2⟩:=n16_back h2
 replace e2:r1=p16 v++r2:=e2
 refine⟨?_,by omega⟩
 unfold p32
 rw[show (u*65536+v) / 65536=u by omega,show (u*65536+v) % 65536=v by omega,e1,e2,List.append_assoc]
theorem by_back {b x r:List UInt8} {k:Nat} (h:by_ k b=some (x,r)):b=x++r/\x.length=k:=by
 unfold by_ at h
 split at h
 ·cases h
 ·cases h;exact⟨by rw[List.take_append_drop],by rw[List.length_take];omega⟩
theorem cnt_back {b x r:List UInt8} (h:cnt b=some (x,r)):b=pc x++r/\x.length<=255:=by
 unfold cnt at h
 rw[Option.bind_eq_some_iff] at h
 obtain⟨⟨k,r1⟩,h1,h⟩:=h
 obtain⟨e1,l1⟩:=n8_back h1
 obtain⟨e2,l2⟩:=by_back h
 replace e2:r1=x++r:=e2
 replace l2:x.length=k:=l2
 refine⟨?_,by omega⟩
 unfold pc
 rw[e1,l2,e2];rfl
theorem opn_back : ∀ (b:List UInt8) (n:List (List UInt8)),N.opn b=some n->b=N.wire n++b.drop (N.size n)
 | b,n,h=>by
  match b with
  | []=>rw[N.opn_nil] at h;cases h
  | k::r =>
   rw[N.opn] at h
   split at h
   ·rename_i hk
    cases h
    have:k=0:=UInt8.toNat_inj.1 hk
    subst this
    simp[N.wire,N.body,N.size]
   ·split at h
    ·cases h
    ·rename_i hk hk2
     rw[Option.map_eq_some_iff] at h
     obtain⟨m,hm,rfl⟩:=h
     have ih:=opn_back (r.drop k.toNat) m hm
     have hl:(r.take k.toNat).length=k.toNat:=by rw[List.length_take];omega
     have e1:N.size (r.take k.toNat::m)=N.size m+k.toNat+1:=by simp only[N.size,List.map_cons,List.sum_cons,hl];omega
     have e2:N.wire (r.take k.toNat::m)=k::(r.take k.toNat++N.wire m):=by
      simp only[N.wire,N.body,List.flatMap_cons,hl,u8_nat,List.cons_append,List.append_assoc]
     rw[e1,e2,List.drop_succ_cons,List.cons_append,List.append_assoc,Nat.add_comm (N.size m), <- List.drop_drop, <- ih,List.take_append_drop]
termination_by b => b.length
decreasing_by subst_vars; simp only [List.length_drop, List.length_cons]; omega
theorem nm_back {b r:List UInt8} {n:List (List UInt8)} (h:nm b=some (n,r)):b=N.wire n++r/\Good n:=by
 unfold nm at h
 rw[Option.bind_eq_some_iff] at h
 obtain⟨m,h1,h⟩:=h
 split at h
 ·rename_i hs
  cases h
  obtain⟨a,b',_⟩:=N.opn_small _ _ h1
  exact⟨opn_back _ _ h1,a,b',hs⟩
 ·cases h
theorem soa_back {l r:List UInt8} {s:Soa} (h:soa l=some (s,r)):l=soaB s++r/\s.Ok:=by
 simp only[soa,Option.bind_eq_some_iff,Option.map_eq_some_iff,Prod.exists] at h
 obtain⟨m,r1,h1,x,r2,h2,a,r3,h3,b,r4,h4,c,r5,h5,d,r6,h6,e,r7,h7,h⟩:=h
 cases h
 obtain⟨e1,g1⟩:=nm_back h1
 obtain⟨e2,g2⟩:=nm_back h2
 obtain⟨e3,g3⟩:=n32_back h3
 obtain⟨e4,g4⟩:=n32_back h4
 obtain⟨e5,g5⟩:=n32_back h5
 obtain⟨e6,g6⟩:=n32_back h6
 obtain⟨e7,g7⟩:=n32_back h7
 refine⟨?_,g1,g2,g3,g4,g5,g6,g7⟩
 rw[e1,e2,e3,e4,e5,e6,e7]
 simp[soaB]
theorem sig_back {l r:List UInt8} {s:Sig} (h:sig l=some (s,r)):l=sigB s++r/\r = []/\s.Ok:=by
 simp only[sig,Option.bind_eq_some_iff,Option.map_eq_some_iff,Prod.exists] at h
 obtain⟨t,r1,h1,a,r2,h2,k,r3,h3,x,r4,h4,y,r5,h5,z,r6,h6,g,r7,h7,n,r8,h8,h⟩:=h
 cases h
 obtain⟨e1,g1⟩:=n16_back h1
 obtain⟨e2,g2⟩:=n8_back h2
 obtain⟨e3,g3⟩:=n8_back h3
 obtain⟨e4,g4⟩:=n32_back h4
 obtain⟨e5,g5⟩:=n32_back h5
 obtain⟨e6,g6⟩:=n32_back h6
 obtain⟨e7,g7⟩:=n16_back h7
 obtain⟨e8,g8⟩:=nm_back h8
 refine⟨?_,rfl,g1,g2,g3,g4,g5,g6,g7,g8⟩
 rw[e1,e2,e3,e4,e5,e6,e7,e8]
 simp[sigB]
theorem chain_back {l r:List UInt8} {c:Chain} (h:chain l=some (c,r)):l=chainB c++r/\r = []/\c.Ok:=by
 simp only[chain,Option.bind_eq_some_iff,Prod.exists] at h
 obtain⟨a,r1,h1,f,r2,h2,i,r3,h3,s,r4,h4,n,r5,h5,h⟩:=h
 split at h
 ·cases h
 ·rename_i hn
  simp only[Option.map_eq_some_iff] at h
  obtain⟨t,h6,h⟩:=h
  cases h
  obtain⟨e1,g1⟩:=n8_back h1
  obtain⟨e2,g2⟩:=n8_back h2
  obtain⟨e3,g3⟩:=n16_back h3
  obtain⟨e4,g4⟩:=cnt_back h4
  obtain⟨e5,g5⟩:=cnt_back h5
  obtain⟨e6,g6,_⟩:=T.bmp_opn _ _ _ _ (Nat.le_refl _) h6
  refine⟨?_,rfl,g1,g2,g3,g4,g5,fun e=>hn (by have e':n = []:=e;rw[e'];rfl),g6⟩
  rw[e1,e2,e3,e4,e5]
  simp[chainB,e6]
theorem key_back {l r:List UInt8} {k:Key} (h:key l=some (k,r)):l=keyB k++r/\r = []/\k.Ok:=by
 simp only[key,Option.bind_eq_some_iff,Option.map_eq_some_iff,Prod.exists] at h
 obtain⟨f,r1,h1,p,r2,h2,a,r3,h3,h⟩:=h
 cases h
 obtain⟨e1,g1⟩:=n16_back h1
 obtain⟨e2,g2⟩:=n8_back h2
 obtain⟨e3,g3⟩:=n8_back h3
 refine⟨?_,rfl,g1,g2,g3⟩
 rw[e1,e2,e3]
 simp[keyB]
theorem n8_fwd (x:Nat) (r:List UInt8) (h:x<256):n8 (UInt8.ofNat x::r)=some (x,r):=by
 show some ((UInt8.ofNat x).toNat,r)=_
 rw[nat_u8 x h]
theorem n16_fwd (x:Nat) (r:List UInt8) (h:x<65536):n16 (p16 x++r)=some (x,r):=by
 show some ((UInt8.ofNat (x / 256)).toNat*256+(UInt8.ofNat x).toNat,r)=_
 rw[UInt8.toNat_ofNat',UInt8.toNat_ofNat']
 congr 2;omega
theorem n32_fwd (x:Nat) (r:List UInt8) (h:x<4294967296):n32 (p32 x++r)=some (x,r):=by
 unfold n32 p32
 rw[List.append_assoc,n16_fwd _ _ (by omega)]
 simp only[Option.bind_some]
 rw[n16_fwd _ _ (by omega)]
 simp only[Option.map_some]
 congr 2;omega
theorem by_fwd (x r:List UInt8) (k:Nat) (h:x.length=k):by_ k (x++r)=some (x,r):=by
 unfold by_
 rw[if_neg (by rw[List.length_append];omega), <- h,List.take_left,List.drop_left]
theorem nm_fwd (n:List (List UInt8)) (r:List UInt8) (h:Good n):nm (N.wire n++r)=some (n,r):=by
 unfold nm
 rw[N.opn_wire n r h.1 h.2.1,Option.bind_some,if_pos h.2.2, <- N.wire_len,List.drop_left]
theorem soa_fwd (s:Soa) (r:List UInt8) (h:s.Ok):soa (soaB s++r)=some (s,r):=by
 obtain⟨g1,g2,g3,g4,g5,g6,g7⟩:=h
 unfold soa soaB
 simp only[List.append_assoc]
 simp only[nm_fwd _ _ g1,nm_fwd _ _ g2,n32_fwd _ _ g3,n32_fwd _ _ g4,n32_fwd _ _ g5,n32_fwd _ _ g6,n32_fwd _ _ g7,Option.bind_some,Option.map_some]
theorem sig_fwd (s:Sig) (h:s.Ok):sig (sigB s)=some (s, []):=by
 obtain⟨g1,g2,g3,g4,g5,g6,g7,g8⟩:=h
 unfold sig sigB
 simp only[List.append_assoc,List.cons_append,List.nil_append]
 simp only[n16_fwd _ _ g1,n8_fwd _ _ g2,n8_fwd _ _ g3,n32_fwd _ _ g4,n32_fwd _ _ g5,n32_fwd _ _ g6,n16_fwd _ _ g7,nm_fwd _ _ g8,Option.bind_some,Option.map_some]
end D
open Go.RowKit
def fell50:Ending := .panicked [{ v := .iface 83 (.int .i64 50),recovered:=false }]
def SlB (B:Nat) (w:World) (ao:Option Addr) (l:List UInt8):Prop:=0<l.length -> ∃ b o,ao=some ⟨b,o,none⟩/\b<B /\ ∀ j,j<l.length->w.cell? ⟨b,o+j,none⟩=some (.int .u8 (l.getD j 0).toNat)
theorem SlB.sl {B:Nat} {w:World} {ao:Option Addr} {l:List UInt8} (h:SlB B w ao l) (hB:B<=w.heap.size):SlL w ao l:=fun hn=>by
 obtain⟨b,o,e,hlt,hc⟩:=h hn
 exact⟨b,o,e,Nat.lt_of_lt_of_le hlt hB,hc⟩
theorem SlL.slB {w:World} {ao:Option Addr} {l:List UInt8} (h:SlL w ao l):SlB w.heap.size w ao l:=h
theorem SlB.below {B:Nat} {w w':World} {ao:Option Addr} {l:List UInt8} (h:SlB B w ao l) (hb:Below B w w'):SlB B w' ao l:=fun hn=>by
 obtain⟨b,o,e,hlt,hc⟩:=h hn
 exact⟨b,o,e,hlt,fun j hj=>(hb.cell (p:=⟨b,o+j,none⟩) hlt).trans (hc j hj)⟩
theorem SlB.part {B:Nat} {w:World} {ao:Option Addr} {l:List UInt8} {cap k:Nat} (m:Nat) (h:SlB B w ao l) (hk:k+m<=l.length) (hc:l.length<=cap):SlB B w (if cap=k then ao else ao.map (·.add (k*1))) ((l.drop k).take m):=fun hn=>by
 rw[List.length_take,List.length_drop] at hn
 obtain⟨b,o,rfl,hlt,hc'⟩:=h (by omega)
 rw[if_neg (by omega)]
 refine⟨b,o+k,by rw[Option.map_some,Nat.mul_one,addr_add],hlt,fun j hj=>?_⟩
 rw[List.length_take,List.length_drop] at hj
 rw[show o+k+j=o+(k+j) by omega,hc' (k+j) (by omega)]
 have hjm:j<m:=by omega
 simp[List.getD_eq_getElem?_getD,List.getElem?_drop,hjm]
def Mv (T:Nat) (w w':World):Prop:=w.grownBy w' (some T)
theorem Mv.refl (T:Nat) (w:World):Mv T w w:=⟨rfl,rfl,rfl,Nat.le_refl _,fun _ _ _=>rfl⟩
theorem Mv.trans {T:Nat} {a b c:World} (h:Mv T a b) (k:Mv T b c):Mv T a c:=⟨k.os.trans h.os,k.tape.trans h.tape,k.output.trans h.output,Nat.le_trans h.size k.size,fun i hi hn=>(k.block i (Nat.lt_of_lt_of_le hi h.size) hn).trans (h.block i hi hn)⟩
theorem Mv.of {T:Nat} {w w':World} (h:Below w.heap.size w w'):Mv T w w':=⟨h.os,h.tape,h.output,h.size,fun k hk _=>h.block k hk⟩
theorem Mv.set (T j:Nat) (w:World) (v:Value):Mv T w (w.setCell ⟨T,j,none⟩ v):=⟨rfl,rfl,rfl,by simp[World.setCell],fun k _ hn=>Below.heap_setCell _ _ _ _ (fun e=>hn (by rw[e]))⟩
theorem Mv.below {T B:Nat} {w w':World} (h:Mv T w w') (hT:B<=T) (hB:B<=w.heap.size):Below B w w':=⟨h.os,h.tape,h.output,h.size,fun k hk=>h.block k (by omega) (fun e=>by cases e;omega)⟩
theorem own_mv {w w':World} {B e n T t:Nat} {v:Value} {xs:List Value} {c:Array Value} (h:w.ownsRow B e 1 v n xs) (hT:RowAt w T t c) (hne:t≠e) (hg:Mv T w w'):w'.ownsRow B e 1 v n xs:=by
 refine⟨h.1,?_⟩
 rcases h.2 with h1 | ⟨g,cap,cur,e1,hb,hg',hr⟩
 ·exact Or.inl h1
 ·refine Or.inr ⟨g,cap,cur,e1,hb,?_,hr⟩
  rw[hg.block g (Array.getElem?_eq_some_iff.1 hg').1 (fun e2=>?_)]
  ·exact hg'
  ·cases e2
   unfold RowAt at hT
   rw[hT] at hg'
   simp at hg'
   exact hne hg'.2
theorem row_mv {w w':World} {g T t:Nat} {c:Array Value} (h:RowAt w g t c) (hne:g≠T) (hg:Mv T w w'):RowAt w' g t c:=by
 unfold RowAt;rw[hg.block g h.lt (fun e=>hne (by cases e;rfl))];exact h
def Rdr (B T:Nat) (l:List UInt8) (w:World):Prop := ∃ ao c,RowAt w T 206 #[.slice ao l.length c]/\SlB B w ao l/\l.length<=c/\(ao=none->c=0)/\B<=T/\l.length<=8192/\B<=w.heap.size
theorem Rdr.below {B T:Nat} {l:List UInt8} {w w':World} (h:Rdr B T l w) (hb:Below w.heap.size w w'):Rdr B T l w':=by
 obtain⟨ao,c,h1,h2,h3,h4,h5,h6,h7⟩:=h
 have:=h1.lt
 exact⟨ao,c,h1.below hb (by omega),h2.below (hb.mono h7),h3,h4,h5,h6,Nat.le_trans h7 hb.size⟩
theorem Rdr.lt {B T:Nat} {l:List UInt8} {w:World} (h:Rdr B T l w):T<w.heap.size:=by
 obtain⟨ao,c,h1,_⟩:=h
 exact h1.lt
theorem Rdr.own {B T:Nat} {l:List UInt8} {w w':World} {b n:Nat} {v:Value} {xs:List Value} (h:Rdr B T l w) (hg:Mv T w w') (ho:w.ownsRow b 5 1 v n xs):w'.ownsRow b 5 1 v n xs:=by
 obtain⟨ao,c,h1,_⟩:=h
 exact own_mv ho h1 (by decide) hg
theorem Rdr.ownB {B T:Nat} {l:List UInt8} {w w':World} {b:Nat} {v:Value} {x:List UInt8} (h:Rdr B T l w) (hg:Mv T w w') (ho:OwnB w b v x):OwnB w' b v x:=h.own hg ho
theorem Rdr.ownS {B T:Nat} {l:List UInt8} {w w':World} {b:Nat} {v:Value} {x:List (List UInt8)} (h:Rdr B T l w) (hg:Mv T w w') (ho:OwnS w b v x):OwnS w' b v x:=by
 obtain⟨ao,c,h1,_⟩:=h
 have ho':w.ownsRow b 9 1 v x.length (vs x):=ho
 exact own_mv ho' h1 (by decide) hg
theorem OwnB.lower {w:World} {base base':Nat} {v:Value} {n:List UInt8} (h:OwnB w base v n) (hb:base'<=base):OwnB w base' v n:=by
 have h0:w.ownsRow base 5 1 v n.length (vb n):=h
 refine⟨h0.1,?_⟩
 rcases h0.2 with h1 | ⟨g,cap,cur,e,h1,h2,h3⟩
 ·exact Or.inl h1
 ·exact Or.inr ⟨g,cap,cur,e,Nat.le_trans hb h1,h2,h3⟩
theorem equalIn_nil (w:World) (d:Nat) (t e:TypeId) (a:Option Addr) (l c:Nat) (h:Tryz.prog.underlying t=some (.slice e)):(Op.equalIn (d+1) t (.slice a l c) (.slice none 0 0)).run Tryz.prog w = .ok a.isNone w:=by
 cases a <;> simp[Op.equalIn,run_underlying h]
theorem eql_nil (w:World) (t e:TypeId) (a:Option Addr) (l c:Nat) (h:Tryz.prog.underlying t=some (.slice e)):(binOp .eql t (.slice a l c) (.slice none 0 0)).run Tryz.prog w = .ok (.bool a.isNone) w:=by
 have h2:(Op.equal t (.slice a l c) (.slice none 0 0)).run Tryz.prog w = .ok a.isNone w:=equalIn_nil w 9999 t e a l c h
 simp[binOp,h2]
def Got {α : Type} (B T:Nat) (o:Option (α × List UInt8)) (R : α -> Value->World->Prop) (w:World) (e:Ending) (w':World):Prop :=
 ((∃ x r v,o=some (x,r)/\e = .returned v/\R x v w'/\Rdr B T r w')\/(o=none/\e=fell50))/\Mv T w w'
theorem clone_any (l:List UInt8) (ao:Option Addr) (len cap:Nat) (w:World) (hl:Hid (l.length=len)) (hs:SlL w ao l) (hnil:ao=none->cap=0) (hn:len<=1000000000) :
 Calls Tryz.prog 100 #[.slice ao len cap] w fun e w' => ∃ v,e = .returned v/\OwnB w' w.heap.size v l/\Below w.heap.size w w':=by
 have heq : ∀ W,(binOp .eql 37 (.slice ao len cap) (.slice none 0 0)).run Tryz.prog W = .ok (.bool ao.isNone) W:=fun W=>eql_nil W 37 5 ao len cap Tryz.underlying37
 cases ao with
 | none =>
  have h0:l = []:=by
   rcases Nat.eq_zero_or_pos l.length with h | h
   ·exact List.eq_nil_of_length_eq_zero h
   ·obtain⟨b,o,e,_⟩:=hs h;cases e
  subst h0
  clear hs
  obtain rfl:=hnil rfl
  obtain rfl:len=0:=hl.out.symm
  clear hnil
  replace heq : ∀ W,(binOp .eql 37 (.slice none 0 0) (.slice none 0 0)).run Tryz.prog W = .ok (.bool true) W:=heq
  go_enter Tryz.func100,Tryz.ntmps100
  go_wp2
  go_ret
  exact⟨_,rfl,OwnB.nil _ _,Below.refl _ _⟩
 | some a =>
  have HS:=hide hs
  clear hs
  clear hnil
  replace heq : ∀ W,(binOp .eql 37 (.slice (some a) len cap) (.slice none 0 0)).run Tryz.prog W = .ok (.bool false) W:=heq
  go_enter Tryz.func100,Tryz.ntmps100
  have hO:OwnB (w.alloc (.cells #[] 5)) w.heap.size (.slice (some ⟨w.heap.size,0,none⟩) 0 0) []:=⟨rfl,Or.inr ⟨w.heap.size,0,#[],rfl,Nat.le_refl _,heap_alloc_last w _,Nat.le_refl _,by unfold maxLen;omega,rfl,rfl⟩⟩
  have hb:=(Below.refl w.heap.size w).alloc (Nat.le_refl _) (.cells #[] 5)
  go_wp2_with (at_builtin;refine wpList_append_B rfl (.tmp 5) (.tmp 6) rfl w.heap.size _ [] rfl (by exact hO) _ _ _ l rfl hl.out (by exact HS.out.alloc _) (by intro h;cases h) (by simp;omega) (by simp) ?_;intro v4 w4 hO4 hG4;have hB4:=grown_below hO hG4 hb (by simp);clear hG4 hO hb)
  go_ret
  exact⟨_,rfl,hO4,hB4⟩
theorem slice_hd {B:Nat} {w:World} {ao:Option Addr} {l:List UInt8} {cap:Nat} (k:Nat) (hs:SlB B w ao l) (hk:k<=l.length) (hc:l.length<=cap) (hnil:ao=none->cap=0) :
 ∃ ao',(∀ W,(Instr.slice 37 (.slice ao l.length cap) none (some (.int .i64 (k:Int))) none).run Tryz.prog W = .ok (.slice ao' k cap) W)/\SlB B w ao' (l.take k)/\(ao'=none->cap=0):=by
 refine⟨if cap=0 then ao else ao.map (·.add (0*1)),fun W=>?_,?_,?_⟩
 ·rw[run_slice_h W 37 ao l.length cap Tryz.underlying37 .i64 (k:Int) (by omega) (by omega)]
  have hz:(sizeOf (Tryz.prog.elem 37)).run Tryz.prog W = .ok 1 W:=Tryz.sizeOf5 W
  rw[hz]
  simp only[Result.andThen,sliced,Int.toNat_natCast,Nat.sub_zero]
 ·have:=hs.part (k:=0) (cap:=cap) k (by omega) hc
  rwa [List.drop_zero] at this
 ·intro h
  split at h
  ·assumption
  ·rw[Option.map_eq_none_iff] at h;exact hnil h
theorem slice_tl {B:Nat} {w:World} {ao:Option Addr} {l:List UInt8} {cap:Nat} (k:Nat) (hs:SlB B w ao l) (hk:k<=l.length) (hc:l.length<=cap) (hnil:ao=none->cap=0) :
 ∃ ao',(∀ W,(Instr.slice 37 (.slice ao l.length cap) (some (.int .i64 (k:Int))) none none).run Tryz.prog W = .ok (.slice ao' (l.length - k) (cap - k)) W)/\SlB B w ao' (l.drop k)/\(ao'=none->cap - k=0):=by
 refine⟨if cap=k then ao else ao.map (·.add (k*1)),fun W=>?_,?_,?_⟩
 ·rw[run_slice_l W 37 ao l.length cap Tryz.underlying37 .i64 (k:Int) (by omega) (by omega)]
  have hz:(sizeOf (Tryz.prog.elem 37)).run Tryz.prog W = .ok 1 W:=Tryz.sizeOf5 W
  rw[hz]
  simp only[Result.andThen,sliced,Int.toNat_natCast]
 ·have:=hs.part (k:=k) (cap:=cap) (l.length - k) (by omega) hc
  rwa [List.take_of_length_le (by rw[List.length_drop];omega)] at this
 ·intro h
  split at h
  ·omega
  ·rw[Option.map_eq_none_iff] at h;have:=hnil h;omega
theorem rbytes_any (B T k:Nat) (l:List UInt8) (w:World) (hR:Rdr B T l w) (hk:k<=1000000) :
 Calls Tryz.prog 147 #[.pointer (some ⟨T,0,none⟩),.int .i64 (k:Int)] w fun e w'=>Got B T (D.by_ k l) (fun x v w'=>OwnB w' w.heap.size v x) w e w':=by
 obtain⟨ao,c,hT,hs,hc,hnil,hBT,hl,hB⟩:=hR
 have c0:w.cell? ⟨T,0,none⟩=some (.slice ao l.length c):=by rw[hT.cell 0];rfl
 rcases Nat.lt_or_ge l.length k with hlt | hge
 ·have hR:D.by_ k l=none:=by unfold D.by_;rw[if_pos hlt]
  have HR:=hide hR
  clear hT hs hR
  go_enter Tryz.func147,Tryz.ntmps147
  go_wp2
  exact⟨rfl,Or.inr ⟨HR.out,rfl⟩,Mv.refl _ _⟩
 ·have hR:D.by_ k l=some (l.take k,l.drop k):=by unfold D.by_;rw[if_neg (by omega)]
  obtain⟨a1,r1,s1,n1⟩:=slice_hd k hs hge hc hnil
  obtain⟨a2,r2,s2,n2⟩:=slice_tl k hs hge hc hnil
  have HR:=hide hR
  have HT:=hide hT
  have H1:=hide s1
  have H2:=hide s2
  clear hT hs hR s1 s2
  go_enter Tryz.func147,Tryz.ntmps147
  go_wp2_with (go_at_call 100;refine (clone_any (l.take k) a1 k c _ (by show _=_;rw[List.length_take];omega) (by exact H1.out.sl hB) n1 (by omega)).mono ?_;rintro e w1 ⟨v,rfl,hO,hb1⟩;have hT1:=HT.out.below hb1 HT.out.lt;have c1:w1.cell? ⟨T,0,none⟩=some (.slice ao l.length c):=hT1.cell 0;have f1:=hT1.frozen 0)
  go_ret
  refine⟨Or.inl ⟨_,_,v,HR.out,rfl,?_,?_⟩,(Mv.of hb1).trans (Mv.set T 0 _ _)⟩
  ·exact own_set hO hT1 (by decide) _ _
  ·refine⟨a2,c - k,?_,?_,by rw[List.length_drop];omega,n2,hBT,by rw[List.length_drop];omega,by simp[World.setCell];have:=hb1.size;omega⟩
   ·rw[List.length_drop];exact hT1.set 0 _
   ·exact (H2.out.below (hb1.mono hB)).below ((Below.refl B w1).setCell hBT _)
open Go.RowKit
theorem rdone_any (B T:Nat) (l:List UInt8) (w:World) (hR:Rdr B T l w) :
 Calls Tryz.prog 146 #[.pointer (some ⟨T,0,none⟩)] w fun e w'=>e = .returned (.bool (decide (l = [])))/\w'=w:=by
 obtain⟨ao,c,hT,hs,hc,hnil,hBT,hl,hB⟩:=hR
 have c0:w.cell? ⟨T,0,none⟩=some (.slice ao l.length c):=by rw[hT.cell 0];rfl
 have he:((l.length:Int) == 0)=decide (l = []):=by cases l <;> simp;omega
 generalize decide (l = [])=q at he
 clear hT hs
 go_enter Tryz.func146,Tryz.ntmps146
 go_wp2
 go_ret
 exact⟨rfl,rfl⟩
theorem rothers_any (B T:Nat) (l:List UInt8) (w:World) (hR:Rdr B T l w) :
 Calls Tryz.prog 152 #[.pointer (some ⟨T,0,none⟩)] w fun e w' => ∃ v,e = .returned v/\OwnB w' w.heap.size v l/\Rdr B T [] w'/\Mv T w w':=by
 have HR:=hide hR
 obtain⟨ao,c,hT,hs,hc,hnil,hBT,hl,hB⟩:=hR
 have c0:w.cell? ⟨T,0,none⟩=some (.slice ao l.length c):=by rw[hT.cell 0];rfl
 have hby:D.by_ l.length l=some (l, []):=by unfold D.by_;rw[if_neg (by omega),List.take_length,List.drop_length]
 have HY:=hide hby
 clear hT hs hby
 go_enter Tryz.func152,Tryz.ntmps152
 go_wp2_with fail
 refine (rbytes_any B T l.length l _ (by exact HR.out) (by omega)).mono ?_
 rw[HY.out]
 rintro e w1 ⟨⟨x,r,v,ho,rfl,hx,hr⟩ | ⟨ho,rfl⟩,hm⟩
 ·cases ho
  go_wp2
  go_ret
  exact⟨v,rfl,hx,hr,hm⟩
 ·cases ho
theorem rn8_any (B T:Nat) (l:List UInt8) (w:World) (hR:Rdr B T l w) :
 Calls Tryz.prog 186 #[.pointer (some ⟨T,0,none⟩)] w fun e w'=>Got B T (D.n8 l) (fun x v _=>v = .int .u8 (x:Int)) w e w':=by
 go_enter Tryz.func186,Tryz.ntmps186
 go_wp2_with fail
 refine (rbytes_any B T 1 l _ hR (by omega)).mono ?_
 rintro e w1 ⟨⟨x,r,v,ho,rfl,hx,hr⟩ | ⟨ho,rfl⟩,hm⟩
 ·obtain⟨e1,e2⟩:=D.by_back ho
  match x,e2,hx with
  | [y],_,hx =>
   obtain⟨g,cap,rfl,_,_,_,_,hc⟩:=hx.form (by simp)
   have c0:w1.cell? ⟨g,0,none⟩=some (.int .u8 (y.toNat:Int)):=hc 0 (by simp)
   clear hc
   go_wp2
   go_ret
   exact⟨Or.inl ⟨y.toNat,r,_,by rw[e1];rfl,rfl,rfl,hr⟩,hm⟩
 ·unfold fell50
  go_wp2
  refine⟨rfl,Or.inr ⟨?_,rfl⟩,hm⟩
  cases l with
  | nil=>rfl
  | cons a l=>unfold D.by_ at ho;rw[if_neg (by simp)] at ho;cases ho
theorem or_16 (x y:Nat) (hx:x<256) (hy:y<256):bits .or .u16 ((x:Int)*256) (y:Int)=((x*256+y:Nat):Int):=by
 have:=u16_or_nat (x*256) y (by omega) (by omega)
 rw[nat_join 8 (x*256) y (by omega) (by omega),Int.natCast_mul] at this
 exact this
theorem or_32 (x y:Nat) (hx:x<65536) (hy:y<65536):bits .or .u32 ((x:Int)*65536) (y:Int)=((x*65536+y:Nat):Int):=by
 have:=u32_or_nat (x*65536) y (by omega) (by omega)
 rw[nat_join 16 (x*65536) y (by omega) (by omega),Int.natCast_mul] at this
 exact this
theorem rn16_any (B T:Nat) (l:List UInt8) (w:World) (hR:Rdr B T l w) :
 Calls Tryz.prog 185 #[.pointer (some ⟨T,0,none⟩)] w fun e w'=>Got B T (D.n16 l) (fun x v _=>v = .int .u16 (x:Int)) w e w':=by
 go_enter Tryz.func185,Tryz.ntmps185
 go_wp2_with fail
 refine (rbytes_any B T 2 l _ hR (by omega)).mono ?_
 rintro e w1 ⟨⟨x,r,v,ho,rfl,hx,hr⟩ | ⟨ho,rfl⟩,hm⟩
 ·obtain⟨e1,e2⟩:=D.by_back ho
  match x,e2,hx with
  | [y,z],_,hx =>
   obtain⟨g,cap,rfl,_,_,_,_,hc⟩:=hx.form (by simp)
   have c0:w1.cell? ⟨g,0,none⟩=some (.int .u8 (y.toNat:Int)):=hc 0 (by simp)
   have c1:w1.cell? ⟨g,1,none⟩=some (.int .u8 (z.toNat:Int)):=hc 1 (by simp)
   have hy:=y.toNat_lt
   have hz:=z.toNat_lt
   have ho2:=or_16 y.toNat z.toNat hy hz
   clear hc
   go_wp2
   go_quiet (fail)
   go_wp2
   go_ret
   refine⟨Or.inl ⟨y.toNat*256+z.toNat,r,_,by rw[e1];rfl,rfl,?_,hr.below (drew_below _ ⟨_,rfl⟩)⟩,hm.trans (Mv.of (drew_below _ ⟨_,rfl⟩))⟩
   show Value.int .u16 ((y.toNat:Int)*256+(z.toNat:Int)) = .int .u16 ((y.toNat*256+z.toNat:Nat):Int)
   rw[Int.natCast_add,Int.natCast_mul];rfl
 ·unfold fell50
  go_wp2
  refine⟨rfl,Or.inr ⟨?_,rfl⟩,hm⟩
  match l with
  | []=>rfl
  | [a]=>rfl
  | a::b::l=>unfold D.by_ at ho;rw[if_neg (by simp)] at ho;cases ho
theorem rn32_any (B T:Nat) (l:List UInt8) (w:World) (hR:Rdr B T l w) :
 Calls Tryz.prog 183 #[.pointer (some ⟨T,0,none⟩)] w fun e w'=>Got B T (D.n32 l) (fun x v _=>v = .int .u32 (x:Int)) w e w':=by
 go_enter Tryz.func183,Tryz.ntmps183
 go_wp2_with fail
 refine (rn16_any B T l _ hR).mono ?_
 rintro e w1 ⟨⟨x,r,v,ho,rfl,rfl,hr⟩ | ⟨ho,rfl⟩,hm⟩
 ·obtain⟨_,hx⟩:=D.n16_back ho
  go_wp2_with fail
  refine (rn16_any B T r _ hr).mono ?_
  rintro e w2 ⟨⟨y,q,v,ho2,rfl,rfl,hq⟩ | ⟨ho2,rfl⟩,hm2⟩
  ·obtain⟨_,hy⟩:=D.n16_back ho2
   have hor:=or_32 x y hx hy
   go_wp2
   go_ret
   refine⟨Or.inl ⟨x*65536+y,q,_,by unfold D.n32;rw[ho];simp[ho2],rfl,?_,hq⟩,hm.trans hm2⟩
   show Value.int .u32 ((x:Int)*65536+(y:Int)) = .int .u32 ((x*65536+y:Nat):Int)
   rw[Int.natCast_add,Int.natCast_mul];rfl
  ·unfold fell50
   go_wp2
   exact⟨rfl,Or.inr ⟨by unfold D.n32;rw[ho];simp[ho2],rfl⟩,hm.trans hm2⟩
 ·unfold fell50
  go_wp2
  exact⟨rfl,Or.inr ⟨by unfold D.n32;rw[ho];rfl,rfl⟩,hm⟩
theorem rcounted_any (B T:Nat) (l:List UInt8) (w:World) (hR:Rdr B T l w) :
 Calls Tryz.prog 160 #[.pointer (some ⟨T,0,none⟩)] w fun e w'=>Got B T (D.cnt l) (fun x v w'=>OwnB w' w.heap.size v x) w e w':=by
 go_enter Tryz.func160,Tryz.ntmps160
 go_wp2_with fail
 refine (rn8_any B T l _ hR).mono ?_
 rintro e w1 ⟨⟨x,r,v,ho,rfl,rfl,hr⟩ | ⟨ho,rfl⟩,hm⟩
 ·obtain⟨_,hx⟩:=D.n8_back ho
  go_wp2_with fail
  refine (rbytes_any B T x r _ hr (by omega)).mono ?_
  rintro e w2 ⟨⟨y,q,v,ho2,rfl,hO,hq⟩ | ⟨ho2,rfl⟩,hm2⟩
  ·go_wp2
   go_ret
   exact⟨Or.inl ⟨y,q,_,by unfold D.cnt;rw[ho];exact ho2,rfl,hO.lower hm.size,hq⟩,hm.trans hm2⟩
  ·unfold fell50
   go_wp2
   exact⟨rfl,Or.inr ⟨by unfold D.cnt;rw[ho];exact ho2,rfl⟩,hm.trans hm2⟩
 ·unfold fell50
  go_wp2
  exact⟨rfl,Or.inr ⟨by unfold D.cnt;rw[ho];rfl,rfl⟩,hm⟩
theorem rname_any (B T:Nat) (l:List UInt8) (w:World) (hR:Rdr B T l w) :
 Calls Tryz.prog 180 #[.pointer (some ⟨T,0,none⟩)] w fun e w'=>Got B T (D.nm l) (fun x v w'=>OwnS w' w.heap.size v x) w e w':=by
 obtain⟨ao,c,hT,hs,hc,hnil,hBT,hl,hB⟩:=hR
 have c0:w.cell? ⟨T,0,none⟩=some (.slice ao l.length c):=by rw[hT.cell 0];rfl
 have HT:=hide hT
 have HS:=hide hs
 clear hT hs
 go_enter Tryz.func180,Tryz.ntmps180
 go_wp2_with fail
 refine (open_any l ao l.length c _ rfl (by exact HS.out.sl hB) (by omega) hc).mono ?_
 rintro e w1 ⟨⟨n,v,hn,hz,rfl,hO⟩ | ⟨hn,rfl⟩ | ⟨n,hn,hz,rfl⟩,hb1⟩
 ·obtain⟨_,_,hsz⟩:=N.opn_small l n hn
  have hR:D.nm l=some (n,l.drop (N.size n)):=by unfold D.nm;rw[hn,Option.bind_some,if_pos hz]
  obtain⟨a2,r2,s2,n2⟩:=slice_tl (N.size n) HS.out hsz hc hnil
  have hT1:=HT.out.below hb1 HT.out.lt
  have c1:w1.cell? ⟨T,0,none⟩=some (.slice ao l.length c):=hT1.cell 0
  have f1:=hT1.frozen 0
  have HR:=hide hR
  have H2:=hide s2
  have HO:=hide hO
  have HT1:=hide hT1
  have HB1:=hide hb1
  clear hR s2 hO hT1 hn hb1
  go_wp2
  go_ret
  refine⟨Or.inl ⟨_,_,v,HR.out,rfl,?_,?_⟩,(Mv.of HB1.out).trans (Mv.set T 0 _ _)⟩
  ·exact own_set HO.out HT1.out (by decide) _ _
  ·refine⟨a2,c - N.size n,?_,?_,by rw[List.length_drop];omega,n2,hBT,by rw[List.length_drop];omega,by simp[World.setCell];have:=HB1.out.size;omega⟩
   ·rw[List.length_drop];exact HT1.out.set 0 _
   ·exact (H2.out.below (HB1.out.mono hB)).below ((Below.refl B w1).setCell hBT _)
 ·have hR:D.nm l=none:=by unfold D.nm;rw[hn];rfl
  have HR:=hide hR
  clear hR hn
  go_wp2
  exact⟨rfl,Or.inr ⟨HR.out,rfl⟩,Mv.of hb1⟩
 ·have hR:D.nm l=none:=by unfold D.nm;rw[hn,Option.bind_some,if_neg (by omega)]
  have HR:=hide hR
  clear hR hn
  go_wp2
  exact⟨rfl,Or.inr ⟨HR.out,rfl⟩,Mv.of hb1⟩
open Go.RowKit
theorem step_call {ops:Array Oper} {o:Oper} {a:Act} {w:World} {K:Act->World->Prop} {Q:Exit->Act->World->Prop} {E:Prop} (hgd:o.guard=none) (f:FuncId) (vals:Array Value)
 (hx:(execOp a.eval o).run Tryz.prog w = .ok (.enter f vals) w) {R:Ending->World->Prop} (hc:Calls Tryz.prog f vals w R) (hr : ∀ e w',R e w' -> ∃ v,e = .returned v)
 (h : ∀ v w',R (.returned v) w'->K (a.put o.dst v) w'):if Region.wanted o (yielded ops a.tmps)=true then Oper.wp Tryz.prog o a w K Q else E:=by
 have hw:Region.wanted o (yielded ops a.tmps)=true:=by simp[Region.wanted,hgd]
 rw[if_pos hw]
 unfold Oper.wp
 rw[hx,Oper.upon_enter]
 refine hc.mono fun e w' he=>?_
 obtain⟨v,rfl⟩:=hr e w' he
 exact h v w' he
def Kp (base:Nat) (w w':World):Prop:=Below base w w' /\ ∀ g t c,RowAt w g t c->t≠5->RowAt w' g t c
theorem Kp.refl (base:Nat) (w:World):Kp base w w:=⟨Below.refl _ _,fun _ _ _ h _=>h⟩
theorem Kp.trans {base:Nat} {a b c:World} (h:Kp base a b) (k:Kp base b c):Kp base a c:=⟨h.1.trans k.1,fun g t x hx ht=>k.2 g t x (h.2 g t x hx ht) ht⟩
theorem Kp.of {base:Nat} {w w':World} (h:Below w.heap.size w w') (hb:base<=w.heap.size):Kp base w w':=⟨h.mono hb,fun _ _ _ hx _=>hx.below h hx.lt⟩
theorem Kp.grown {base:Nat} {w w':World} {v:Value} {l:List UInt8} (hO:OwnB w base v l) (hg:w.grownBy w' v.ownBlock) (hb:base<=w.heap.size):Kp base w w':=⟨grown_below hO hg (Below.refl _ _) hb,fun _ _ _ hx ht=>row_grown hO hx ht hg⟩
theorem Kp.size {base:Nat} {w w':World} (h:Kp base w w') (hb:base<=w.heap.size):base<=w'.heap.size:=Nat.le_trans hb h.1.size
theorem Kp.app {base:Nat} {w w':World} {v:Value} {l:List UInt8} {o:Obj} (hO:OwnB w base v l) (hg:(w.alloc o).grownBy w' v.ownBlock) (hb:base<=w.heap.size):Kp base w w' :=
 (Kp.of ((Below.refl w.heap.size w).alloc (Nat.le_refl _) o) hb).trans (Kp.grown (hO.alloc o) hg (by simp;omega))
theorem append16_any (n:Nat) (hn:n<65536) (base:Nat) (v:Value) (l:List UInt8) (w:World) (hO:OwnB w base v l) (hb:base<=w.heap.size) (hl:l.length<=1000000) :
 Calls Tryz.prog 187 #[v,.int .u16 (n:Int)] w fun e w' => ∃ v',e = .returned v'/\OwnB w' base v' (l++D.p16 n)/\Kp base w w':=by
 have HO:=hide hO
 clear hO
 go_enter Tryz.func187,Tryz.ntmps187
 have h1:Hid ((n:Int) / 256=((UInt8.ofNat (n / 256)).toNat:Int)):=by show _=_;rw[UInt8.toNat_ofNat'];omega
 have h2:Hid ((n:Int) % 256=((UInt8.ofNat n).toNat:Int)):=by show _=_;rw[UInt8.toNat_ofNat'];omega
 go_wp2_with (at_builtin;refine wpList_append_B rfl (.tmp 5) (.tmp 11) rfl base _ l rfl (by exact HO.out.alloc _) _ _ _ (D.p16 n) rfl rfl (by refine SlL.litm w (D.p16 n) _ 5 (0,0) ?_;show _ = #[Value.int .u8 ((UInt8.ofNat (n / 256)).toNat:Int),Value.int .u8 ((UInt8.ofNat n).toNat:Int)];rw[<- h1.out, <- h2.out]) (by intro h;cases h) (by simp;omega) (by simp;omega) ?_;intro v4 w4 hO4 hG4)
 go_ret
 exact⟨_,rfl,hO4,Kp.app HO.out hG4 hb⟩
theorem append16_nil (n:Nat) (hn:n<65536) (w:World) :
 Calls Tryz.prog 187 #[.slice none 0 0,.int .u16 (n:Int)] w fun e w' => ∃ v',e = .returned v'/\OwnB w' w.heap.size v' (D.p16 n)/\Below w.heap.size w w' :=
 (append16_any n hn w.heap.size (.slice none 0 0) [] w (OwnB.nil _ _) (Nat.le_refl _) (by simp)).mono fun _ _ ⟨v',h1,h2,h3⟩=>⟨v',h1,h2,h3.1⟩
theorem append32_any (n:Nat) (hn:n<4294967296) (base:Nat) (v:Value) (l:List UInt8) (w:World) (hO:OwnB w base v l) (hb:base<=w.heap.size) (hl:l.length<=900000) :
 Calls Tryz.prog 208 #[v,.int .u32 (n:Int)] w fun e w' => ∃ v',e = .returned v'/\OwnB w' base v' (l++D.p32 n)/\Kp base w w':=by
 have HO:=hide hO
 clear hO
 have h1:(n:Int) / 65536=((n / 65536:Nat):Int):=by omega
 have h2:IntKind.u16.wrap (n:Int)=((n % 65536:Nat):Int):=by rw[IntKind.wrap_u16];omega
 have b1:n / 65536<65536:=by omega
 have b2:n % 65536<65536:=by omega
 have e0:l++D.p32 n=l++D.p16 (n / 65536)++D.p16 (n % 65536):=by rw[D.p32,List.append_assoc]
 rw[e0]
 clear e0
 generalize n / 65536=x at h1 b1
 generalize n % 65536=y at h2 b2
 go_enter Tryz.func208,Tryz.ntmps208
 go_wp2_with fail
 refine (append16_any x b1 base v l _ (by exact HO.out) (by exact hb) (by omega)).mono ?_
 rintro e w1 ⟨v1,rfl,hO1,hK1⟩
 go_wp2_with fail
 refine (append16_any y b2 base v1 (l++D.p16 x) _ (by exact hO1) (by exact hK1.size hb) (by simp[D.p16];omega)).mono ?_
 rintro e w2 ⟨v2,rfl,hO2,hK2⟩
 go_wp2
 go_ret
 exact⟨_,rfl,hO2,hK1.trans hK2⟩
theorem SlL.grown {w w':World} {ao:Option Addr} {x:List UInt8} {row:Option Nat} (h:SlL w ao x) (hg:w.grownBy w' row) (hne:0<x.length -> ∀ b o,ao=some ⟨b,o,none⟩->some b≠row):SlL w' ao x:=fun hn=>by
 obtain⟨b,o,e,hlt,hc⟩:=h hn
 exact⟨b,o,e,Nat.lt_of_lt_of_le hlt hg.size,fun j hj=>(World.cell?_of_block (w:=w) (a:=⟨b,o+j,none⟩) (hg.block b hlt (hne hn b o e))).trans (hc j hj)⟩
theorem appendCounted_any (x:List UInt8) (ao:Option Addr) (len cap:Nat) (base:Nat) (v:Value) (l:List UInt8) (w:World) (hO:OwnB w base v l) (hb:base<=w.heap.size) (hl:l.length<=900000) (hx:Hid (x.length=len)) (hs:SlL w ao x) (hnil:ao=none->cap=0) (hlen:len<=100000) (hne:0<x.length -> ∀ b o,ao=some ⟨b,o,none⟩->some b≠v.ownBlock) :
 Calls Tryz.prog 159 #[v,.slice ao len cap] w fun e w' => ∃ v',e = .returned v'/\OwnB w' base v' (l++D.pc x)/\Kp base w w':=by
 have HO:=hide hO
 have HS:=hide hs
 have HN:=hide hne
 have HNI:=hide hnil
 clear hO hs hne hnil
 have h1:Hid ((len:Int) % 256=((UInt8.ofNat x.length).toNat:Int)):=by show _=_;rw[UInt8.toNat_ofNat',hx.out];omega
 go_enter Tryz.func159,Tryz.ntmps159
 go_wp2_with (first
  | (at_builtin;refine wpList_append_B rfl (.tmp 5) (.tmp 9) rfl base _ l rfl (by exact HO.out.alloc _) _ _ _ [UInt8.ofNat x.length] rfl rfl (by exact SlL.oneI _ _ _ _ h1.out) (by intro h;cases h) (by simp;omega) (by simp;omega) ?_;intro v4 w4 hO4 hG4;have hS4:=(HS.out.alloc _).grown hG4 HN.out;have hK4:=Kp.app HO.out hG4 hb;clear hG4)
  | (at_builtin;refine wpList_append_B rfl (.tmp 10) (.tmp 11) rfl base _ _ rfl hO4 _ _ _ x rfl hx.out hS4 HNI.out (by simp;omega) (hK4.size hb) ?_;intro v5 w5 hO5 hG5;have hK5:=Kp.grown hO4 hG5 (hK4.size hb);clear hG5))
 go_ret
 refine⟨_,rfl,?_,hK4.trans hK5⟩
 rw[List.append_assoc] at hO5
 exact hO5
theorem OwnB.blk {w:World} {base:Nat} {v:Value} {l:List UInt8} (h:OwnB w base v l) {g:Nat} (hg:some g=v.ownBlock):base<=g/\g<w.heap.size:=by
 have h0:w.ownsRow base 5 1 v l.length (vb l):=h
 rcases h0.2 with⟨rfl,_⟩ | ⟨g',cap,cur,rfl,hb,hg',_⟩
 ·simp[Value.ownBlock] at hg
 ·simp[Value.ownBlock] at hg;subst hg;exact⟨hb,(Array.getElem?_eq_some_iff.1 hg').1⟩
theorem SlL.apart {w0 w:World} {ao:Option Addr} {x:List UInt8} {base:Nat} {v:Value} {l:List UInt8} (hs:SlL w0 ao x) (hO:OwnB w base v l) (hb:w0.heap.size<=base):0<x.length -> ∀ b o,ao=some ⟨b,o,none⟩->some b≠v.ownBlock:=by
 intro hn b o e e2
 obtain⟨b',o',e',hlt,_⟩:=hs hn
 rw[e'] at e
 cases e
 have:=(hO.blk e2).1
 omega
theorem OwnB.two (w:World) (x y:UInt8) (base:Nat) (hb:base<=w.heap.size):OwnB (w.alloc (.cells #[.int .u8 x.toNat,.int .u8 y.toNat] 5)) base (.slice (some ⟨w.heap.size,0,none⟩) 2 2) [x,y] :=
 ⟨rfl,Or.inr ⟨w.heap.size,2,_,rfl,hb,heap_alloc_last w _,by simp,by unfold maxLen;omega,rfl,rfl⟩⟩
open Go.RowKit
theorem below_allocs {B:Nat} {w W:World} {o:Obj} (h:Below B w (w.alloc o)) (hB:B<=w.heap.size) (hW:W=(w.alloc o).drew \/ ∃ q,W=((w.alloc o).alloc q).drew):Below B w W:=by
 rcases hW with rfl | ⟨q,rfl⟩
 ·exact h.drew
 ·exact (h.alloc (by simp;omega) q).drew
set_option maxHeartbeats 800000 in
theorem keyBytes_any (k:D.Key) (ao:Option Addr) (len cap:Nat) (w:World) (hk:k.Ok) (hx:Hid (k.key.length=len)) (hs:SlL w ao k.key) (hnil:ao=none->cap=0) (hlen:len<=100000) :
 Calls Tryz.prog 155 #[.agg #[.int .u16 (k.flags:Int),.int .u8 (k.proto:Int),.int .u8 (k.alg:Int),.slice ao len cap]] w fun e w' => ∃ v',e = .returned v'/\OwnB w' w.heap.size v' (D.keyB k)/\Below w.heap.size w w':=by
 have HS:=hide hs
 have HNI:=hide hnil
 clear hs hnil
 obtain⟨k1,k2,k3⟩:=hk
 have q1:(k.proto:Int)=((UInt8.ofNat k.proto).toNat:Int):=by rw[D.nat_u8 _ k2]
 have q2:(k.alg:Int)=((UInt8.ofNat k.alg).toNat:Int):=by rw[D.nat_u8 _ k3]
 have hk1:=k1
 rw[q1,q2]
 clear q1 q2
 have hrow:=RowAt.new w 181 #[.int .u16 (k.flags:Int),.int .u8 ((UInt8.ofNat k.proto).toNat:Int),.int .u8 ((UInt8.ofNat k.alg).toNat:Int),.slice ao len cap]
 have HROW:=hide hrow
 clear hrow
 have HB0:=hide ((Below.refl w.heap.size w).alloc (Nat.le_refl _) (.cells #[.int .u16 (k.flags:Int),.int .u8 ((UInt8.ofNat k.proto).toNat:Int),.int .u8 ((UInt8.ofNat k.alg).toNat:Int),.slice ao len cap] 181))
 show Calls _ _ _ _ fun e w' => ∃ v',e = .returned v'/\OwnB w' w.heap.size v' (D.p16 k.flags ++ [UInt8.ofNat k.proto,UInt8.ofNat k.alg]++k.key)/\Below w.heap.size w w'
 generalize UInt8.ofNat k.proto=x at HROW HB0 ⊢
 generalize UInt8.ofNat k.alg=y at HROW HB0 ⊢
 go_enter Tryz.func155,Tryz.ntmps155
 go_wp2
 go_region_law (first
  | (refine step_call rfl 187 #[.slice none 0 0,.int .u16 (k.flags:Int)] (by go_simp) (append16_nil k.flags k1 _) (by rintro e w' ⟨v,rfl,_⟩;exact⟨v,rfl⟩) ?_;rintro v1 w1 ⟨_,he,hO1,hb1⟩;cases he;have r1:=RowAt.below (by first | exact HROW.out | exact HROW.out.alloc _) hb1 (by simp <;> omega);have p1:w1.cell? ⟨w.heap.size,1,none⟩=some (.int .u8 (x.toNat:Int)):=r1.cell 1;have p2:w1.cell? ⟨w.heap.size,2,none⟩=some (.int .u8 (y.toNat:Int)):=r1.cell 2;have R1:=hide r1;have O1:=hide (OwnB.lower (base':=w.heap.size) hO1 (by simp <;> omega));have z1:w.heap.size<=w1.heap.size:=Nat.le_trans (by simp <;> omega) hb1.size;have B1:=hide ((below_allocs HB0.out (Nat.le_refl _) (by first | exact Or.inl rfl | exact Or.inr ⟨_,rfl⟩)).trans (hb1.mono (by simp <;> omega)));(try (have S1:Hid (SlL w1 (some ⟨w.heap.size+1,0,none⟩) [x,y]):=SlL.below (by have h:=SlL.litm (w.alloc (.cells #[.int .u16 (k.flags:Int),.int .u8 (x.toNat:Int),.int .u8 (y.toNat:Int),.slice ao len cap] 181)) [x,y] _ 5 (0,0) rfl;rw[World.size_alloc] at h;exact h) hb1 (by simp <;> omega)));clear r1 hO1 hb1)
  | (refine step_append_B rfl (.tmp 6) (.tmp 11) rfl w.heap.size v1 (D.p16 k.flags) (by simp[Act.eval]) (by exact O1.out.alloc _) ⟨w1.heap.size,0,none⟩ 2 2 [x,y] (by simp[Act.eval]) rfl (by exact SlL.litm w1 [x,y] _ 5 (0,0) rfl) (by simp[D.p16]) (by simp;omega) ?_;intro v4 w4 hO4 hG4;have K4:=hide (Kp.app O1.out hG4 z1);have O4:=hide hO4;clear hG4 hO4)
  | (refine step_append_B rfl (.tmp 6) (.tmp 11) rfl w.heap.size v1 (D.p16 k.flags) (by simp[Act.eval]) (by exact O1.out) ⟨w.heap.size+1,0,none⟩ 2 2 [x,y] (by simp[Act.eval]) rfl (by exact S1.out) (by simp[D.p16]) (by exact z1) ?_;intro v4 w4 hO4 hG4;have K4:=hide (Kp.grown O1.out hG4 z1);have O4:=hide hO4;clear hG4 hO4))
 all_goals
  have p3:w4.cell? ⟨w.heap.size,3,none⟩=some (.slice ao len cap):=(K4.out.2 _ _ _ R1.out (by decide)).cell 3
  have HS4:=hide (HS.out.below (B1.out.trans K4.out.1) (Nat.le_refl _))
  go_wp2_with (at_builtin;refine wpList_append_B rfl (.tmp 13) (.tmp 15) rfl w.heap.size _ _ rfl (by exact O4.out) _ _ _ k.key rfl hx.out (by exact HS4.out) HNI.out (by simp[D.p16];omega) (by exact K4.out.size z1) ?_;intro v5 w5 hO5 hG5;have hK5:=Kp.grown O4.out hG5 (K4.out.size z1);clear hG5)
  go_ret
  exact⟨_,rfl,hO5,(B1.out.trans K4.out.1).trans hK5.1⟩
end Go.Proofs.YtbkegikdmmnkaaaGreat
