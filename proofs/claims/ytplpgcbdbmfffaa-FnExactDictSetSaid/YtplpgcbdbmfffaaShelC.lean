/- The shelf with the copies of texts. -/
import Derived.Test.YtplpgcbdbmfffaaShelf
