/-
  The primes, and the first 64 bits of their roots' fractions, as the program reckons them: held against tables by the kernel. No conditions.
-/
import Derived.Test.YtblielcmjdnlfaaShaMath
set_option linter.unusedVariables false
namespace Sha5

def PRIMES : List Nat := [2, 3, 5, 7, 11, 13, 17, 19, 23, 29, 31, 37, 41, 43, 47, 53, 59, 61, 67, 71, 73, 79, 83, 89, 97, 101, 103, 107, 109, 113, 127, 131, 137, 139, 149, 151, 157, 163, 167, 173, 179, 181, 191, 193, 197, 199, 211, 223, 227, 229, 233, 239, 241, 251, 257, 263, 269, 271, 277, 281, 283, 293, 307, 311, 313, 317, 331, 337, 347, 349, 353, 359, 367, 373, 379, 383, 389, 397, 401, 409]
def KS : List Nat := [4794697086780616226, 8158064640168781261, 13096744586834688815, 16840607885511220156, 4131703408338449720, 6480981068601479193, 10538285296894168987, 12329834152419229976, 15566598209576043074, 1334009975649890238, 2608012711638119052, 6128411473006802146, 8268148722764581231, 9286055187155687089, 11230858885718282805, 13951009754708518548, 16472876342353939154, 17275323862435702243, 1135362057144423861, 2597628984639134821, 3308224258029322869, 5365058923640841347, 6679025012923562964, 8573033837759648693, 10970295158949994411, 12119686244451234320, 12683024718118986047, 13788192230050041572, 14330467153632333762, 15395433587784984357, 489312712824947311, 1452737877330783856, 2861767655752347644, 3322285676063803686, 5560940570517711597, 5996557281743188959, 7280758554555802590, 8532644243296465576, 9350256976987008742, 10552545826968843579, 11727347734174303076, 12113106623233404929, 14000437183269869457, 14369950271660146224, 15101387698204529176, 15463397548674623760, 17586052441742319658, 1182934255886127544, 1847814050463011016, 2177327727835720531, 2830643537854262169, 3796741975233480872, 4115178125766777443, 5681478168544905931, 6601373596472566643, 7507060721942968483, 8399075790359081724, 8693463985226723168, 9568029438360202098, 10144078919501101548, 10430055236837252648, 11840083180663258601, 13761210420658862357, 14299343276471374635, 14566680578165727644, 15097957966210449927, 16922976911328602910, 17689382322260857208, 500013540394364858, 748580250866718886, 1242879168328830382, 1977374033974150939, 2944078676154940804, 3659926193048069267, 4368137639120453308, 4836135668995329356, 5532061633213252278, 6448918945643986474, 6902733635092675308, 7801388544844847127]
def H0 : St := ⟨7640891576956012808, 13503953896175478587, 4354685564936845355, 11912009170470909681, 5840696475078001361, 11170449401992604703, 2270897969802886507, 6620516959819538809⟩

/-- would the inner loop say that n is prime, with these primes left? -/
def scan (n : Nat) : List Nat → Bool
  | [] => true
  | p :: r => if n < p * p then true else if n % p = 0 then false else scan n r

def primesOk : Bool := (List.range 80).all fun k => (List.range 420).all fun n => !(decide ((if k = 0 then 2 else PRIMES.getD (k - 1) 0 + 1) ≤ n) && decide (n ≤ PRIMES.getD k 0)) || (scan n (PRIMES.take k) == decide (n = PRIMES.getD k 0))

def tpLow (x y one other : Nat) : Nat := ((x * y % M + one) % M + other) % M
def tpHigh (x y one other : Nat) : Nat := ((x * y / M + (x * y % M + one) / M) % M + ((x * y % M + one) % M + other) / M) % M

def sqLow (whole fr : Nat) : Nat := fr * fr % M
def sqMid (whole fr : Nat) : Nat := tpLow (2 * whole % M) fr (fr * fr / M) 0
def sqHigh (whole fr : Nat) : Nat := (whole * whole % M + tpHigh (2 * whole % M) fr (fr * fr / M) 0) % M
def cuThird (whole fr : Nat) : Nat := tpLow (sqMid whole fr) fr (sqLow whole fr * fr / M) 0
def cuFirst (whole fr : Nat) : Nat := tpHigh (sqHigh whole fr) fr (tpHigh (sqMid whole fr) fr (sqLow whole fr * fr / M) 0) 0
def cuSecond (whole fr : Nat) : Nat := tpLow (sqHigh whole fr) fr (tpHigh (sqMid whole fr) fr (sqLow whole fr * fr / M) 0) 0
def cube (whole fr : Nat) : Nat :=
  ((sqHigh whole fr * whole % M + cuFirst whole fr) % M + tpHigh (sqMid whole fr) whole (cuSecond whole fr) (tpHigh (sqLow whole fr) whole (cuThird whole fr) 0)) % M

/-- the first n of 64 bits. -/
def topBits (F n : Nat) : Nat := F / 2 ^ (64 - n) * 2 ^ (64 - n)
/-- the root of p: W its whole part, F its fraction's first 64 bits: what the loops ask is as it should be. -/
def rootOk (f : Nat → Nat → Nat) (p W F : Nat) : Bool :=
  (List.range W).all (fun v => decide (f (v + 1) 0 < p)) && !decide (f (W + 1) 0 < p) &&
  (List.range 64).all fun n => if f W (topBits F n ||| 2 ^ (63 - n)) < p then topBits F (n + 1) == (topBits F n ||| 2 ^ (63 - n)) else topBits F (n + 1) == topBits F n

def isqrt (p : Nat) : Nat := ((List.range 25).filter fun v => decide (0 < v) && decide (v * v < p)).length
def icbrt (p : Nat) : Nat := ((List.range 25).filter fun v => decide (0 < v) && decide (v * v * v < p)).length


set_option maxRecDepth 100000 in
theorem primes_ok : primesOk = true := by decide +kernel
set_option maxRecDepth 100000 in
theorem sq_ok : (List.range 8).all (fun i => rootOk sqHigh (PRIMES.getD i 0) (isqrt (PRIMES.getD i 0)) (H0.list.getD i 0)) = true := by decide +kernel
set_option maxRecDepth 100000 in
theorem cube_ok : (List.range 80).all (fun i => rootOk cube (PRIMES.getD i 0) (icbrt (PRIMES.getD i 0)) (KS.getD i 0)) = true := by decide +kernel
set_option maxRecDepth 100000 in
theorem abc_ok : (sumWith KS H0 [97, 98, 99]).take 4 = [0xdd, 0xaf, 0x35, 0xa1] := by decide +kernel
end Sha5
